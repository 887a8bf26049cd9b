/-
  The machine of registers: what an OpStore does. Written by mkvst.py.
-/
import Derived.Test.YtgmahpkhdnabjaaGreatVPlJ
namespace Go.Proofs.YtgmahpkhdnabjaaGreat
open Go.RowKit
set_option linter.unusedVariables false
set_option linter.unusedSimpArgs false

theorem mc_po (E : EnvC) (vr : Value) (O : OutC) (y : Nat → Int) : (((((mcA E vr O).setIfInBounds 14 (.int .i32 (y 0))).setIfInBounds 15 (.int .i32 (y 1))).setIfInBounds 16 (.int .i32 (y 2))).setIfInBounds 17 (.int .i32 (y 3))) = mcA E vr { O with po := y } := by simp [mcA]
theorem mc_sz (E : EnvC) (vr : Value) (O : OutC) (x : Int) : (mcA E vr O).setIfInBounds 18 (.int .i32 x) = mcA E vr { O with sz := x } := by simp [mcA]
theorem mc_cl (E : EnvC) (vr : Value) (O : OutC) (y : Nat → Int) : (((((mcA E vr O).setIfInBounds 20 (.int .i32 (y 0))).setIfInBounds 21 (.int .i32 (y 1))).setIfInBounds 22 (.int .i32 (y 2))).setIfInBounds 23 (.int .i32 (y 3))) = mcA E vr { O with cl := y } := by simp [mcA]
theorem Blk.blk4 {w : World} {b i0 i1 i2 i3 : Nat} {cs : Array Value} {t : TypeId} (h : Blk w b cs t) (a0 a1 a2 a3 : Value) :
    Blk ((((w.setCell ⟨b, i0, none⟩ a0).setCell ⟨b, i1, none⟩ a1).setCell ⟨b, i2, none⟩ a2).setCell ⟨b, i3, none⟩ a3) b ((((cs.setIfInBounds i0 a0).setIfInBounds i1 a1).setIfInBounds i2 a2).setIfInBounds i3 a3) t := (((h.set i0 a0).set i1 a1).set i2 a2).set i3 a3
theorem OV.ext9 {w w' : World} {base : Nat} {v : Value} {L : List (Nat → Int)} (h : OV w base v L) (hx : Ext w w') : OV w' base v L := GO.ext h hx
theorem grown_ext {w w1 w2 : World} {r : Nat} (hx : Ext w w1) (hg : w1.grownBy w2 (some r)) : w.grownBy w2 (some r) := (extGrownG hx (some r)).trans hg

set_option maxRecDepth 10000 in
set_option maxHeartbeats 4000000 in
theorem store_1 {w : World} {mb : Nat} {E : EnvC} {vr : Value} {O : OutC} {R : List (Nat → Int)} (I : Nat → Int) (e1 : I 1 = 1) (hm : Blk w mb (mcA E vr O) 75) (hr : VRow w vr R) (h6 : 0 ≤ I 6 ∧ I 6 < (R.length : Int)) :
    Calls Tryz.prog 48 #[.pointer (some ⟨mb, 0, none⟩), .agg (insA I)] w fun e w' => e = .returned (.tuple #[]) ∧ Blk w' mb (mcA E vr { O with po := reg R (I 6) }) 75 ∧ w.grownBy w' (some mb) := by
  have hX : Ext w (w.alloc (.cells (insA I) 64)) := (Ext.refl w).alloc _
  have hI : Blk (w.alloc (.cells (insA I) 64)) w.heap.size (insA I) 64 := Blk.new w _ _
  have D := hide (And.intro hI (And.intro (hm.ext hX) (And.intro (hr.ext hX) hX)))
  have HM := hide hm
  have hmb := hm.lt
  clear hX hI hm hr
  go_enter Tryz.func48, Tryz.ntmps48
  go_upto_region 1 with fail
  generalize hw1 : (w.alloc (.cells (insA I) 64)) = w1 at D ⊢
  clear hw1
  have hne : ¬ mb = w.heap.size := by omega
  have hsz : w.heap.size < w1.heap.size := (unhide D).1.lt
  obtain ⟨b, off, cap, ev, hbl, hall⟩ := (unhide D).2.2.1.slc (by have := h6.1; have := h6.2; omega)
  have m13 := mc_at (unhide D).2.1 13 (v := vr) rfl
  rw [ev] at m13
  obtain ⟨k6, ek6, hk6, r60, r61, r62, r63⟩ := hall (I 6) h6.1 h6.2
  have i6 := ins_at (unhide D).1 6 (v := .int .i64 (I 6)) rfl
  rw [ek6] at i6
  have i1 := ins_at (unhide D).1 1 (v := .int .i64 (I 1)) rfl
  rw [e1] at i1
  have HI1 := hide (fun wx (hx : Ext w1 wx) => (hx.cell (World.block_lt_of_cell? _ _ i1)).trans i1)
  obtain ⟨y, hy⟩ : ∃ y, reg R (I 6) = y := ⟨_, rfl⟩
  rw [hy] at r60 r61 r62 r63
  have HY := hide hy
  clear h6 hall ek6 ev e1 hy
  generalize R.length = n at *
  go_cut [4] (fun p wc => ∃ bc, p = .pointer (some ⟨bc, 0, none⟩) ∧ Hid (Ext w1 wc ∧ Blk wc bc #[.int .i32 (y 0), .int .i32 (y 1), .int .i32 (y 2), .int .i32 (y 3)] 28 ∧ w1.heap.size ≤ bc))
  case first =>
    have HCL := hide (fun wx (hx : Ext w1 wx) => show wx.cell? ⟨mb, 13, none⟩ = some (.slice (some ⟨b, off, none⟩) n cap) ∧ wx.cell? ⟨w.heap.size, 6, none⟩ = some (.int .i64 (k6 : Int)) ∧ wx.cell? ⟨b, off + k6 * 4, none⟩ = some (.int .i32 (y 0)) ∧ wx.cell? ⟨b, off + k6 * 4 + 1, none⟩ = some (.int .i32 (y 1)) ∧ wx.cell? ⟨b, off + k6 * 4 + 2, none⟩ = some (.int .i32 (y 2)) ∧ wx.cell? ⟨b, off + k6 * 4 + 3, none⟩ = some (.int .i32 (y 3)) from
      ⟨(hx.cell (World.block_lt_of_cell? _ _ m13)).trans m13, (hx.cell (World.block_lt_of_cell? _ _ i6)).trans i6, (hx.cell (World.block_lt_of_cell? _ _ r60)).trans r60, (hx.cell (World.block_lt_of_cell? _ _ r61)).trans r61, (hx.cell (World.block_lt_of_cell? _ _ r62)).trans r62, (hx.cell (World.block_lt_of_cell? _ _ r63)).trans r63⟩)
    go_region_held3 (fun wx => wx.cell? ⟨mb, 13, none⟩ = some (.slice (some ⟨b, off, none⟩) n cap) ∧ wx.cell? ⟨w.heap.size, 6, none⟩ = some (.int .i64 (k6 : Int)) ∧ wx.cell? ⟨b, off + k6 * 4, none⟩ = some (.int .i32 (y 0)) ∧ wx.cell? ⟨b, off + k6 * 4 + 1, none⟩ = some (.int .i32 (y 1)) ∧ wx.cell? ⟨b, off + k6 * 4 + 2, none⟩ = some (.int .i32 (y 2)) ∧ wx.cell? ⟨b, off + k6 * 4 + 3, none⟩ = some (.int .i32 (y 3)))
      (first | with_reducible exact unhide HCL _ ((Ext.refl _).drew) | with_reducible exact unhide HCL _ (((Ext.refl _).alloc _).drew) | with_reducible exact unhide HCL _ ((Ext.refl _).alloc _))
      (fail)
    all_goals go_wp2
    all_goals go_meet
    all_goals first | exact ⟨w1.heap.size, rfl, ((Ext.refl w1).drew).alloc _, Blk.at rfl, Nat.le_refl _⟩ | exact ⟨w1.heap.size, rfl, ((Ext.refl w1).alloc _).drew, (Blk.new w1 _ _).ext ((Ext.refl _).drew), Nat.le_refl _⟩ | exact ⟨w1.heap.size, rfl, (Ext.refl w1).alloc _, Blk.new w1 _ _, Nat.le_refl _⟩
  case rest =>
  obtain ⟨bc, rfl, hcut⟩ := hcut
  rename_i wc
  have hx := (unhide hcut).1
  have hbc := (unhide hcut).2.2
  have C := hide (unhide hcut).2.1
  obtain ⟨c0, c1, c2, c3⟩ := (unhide C).vec4
  have hbm : ¬ mb = bc := by omega
  have j1 := unhide HI1 wc hx
  have M := hide ((unhide D).2.1.ext hx)
  have X := hide ((unhide D).2.2.2.trans hx)
  clear D i1 m13 i6 r60 r61 r62 r63 HI1 hx hcut
  have m0 := (unhide M).free 14
  have x0 := mc_at (unhide M) 14 (v := .int .i32 (O.po 0)) rfl
  have z0 := (unhide M).free 14
  have x1 := mc_at (unhide M) 15 (v := .int .i32 (O.po 1)) rfl
  have z1 := (unhide M).free 15
  have x2 := mc_at (unhide M) 16 (v := .int .i32 (O.po 2)) rfl
  have z2 := (unhide M).free 16
  have x3 := mc_at (unhide M) 17 (v := .int .i32 (O.po 3)) rfl
  have z3 := (unhide M).free 17
  go_wp2
  refine bodyPost_end (v := .tuple #[]) (by simp [results, Tryz.results48, go_sem]) rfl ⟨rfl, ?_, ?_⟩
  · rw [unhide HY, ← mc_po]
    exact (unhide M).blk4 _ _ _ _
  · exact grown_ext (unhide X) (grown4 _ _ _ _ _ _ _ _ _ _)

set_option maxRecDepth 10000 in
set_option maxHeartbeats 4000000 in
theorem store_2 {w : World} {mb : Nat} {E : EnvC} {vr : Value} {O : OutC} {R : List (Nat → Int)} (I : Nat → Int) (e1 : I 1 = 2) (hm : Blk w mb (mcA E vr O) 75) (hr : VRow w vr R) (h6 : 0 ≤ I 6 ∧ I 6 < (R.length : Int)) :
    Calls Tryz.prog 48 #[.pointer (some ⟨mb, 0, none⟩), .agg (insA I)] w fun e w' => e = .returned (.tuple #[]) ∧ Blk w' mb (mcA E vr { O with sz := reg R (I 6) 0 }) 75 ∧ w.grownBy w' (some mb) := by
  have hX : Ext w (w.alloc (.cells (insA I) 64)) := (Ext.refl w).alloc _
  have hI : Blk (w.alloc (.cells (insA I) 64)) w.heap.size (insA I) 64 := Blk.new w _ _
  have D := hide (And.intro hI (And.intro (hm.ext hX) (And.intro (hr.ext hX) hX)))
  have HM := hide hm
  have hmb := hm.lt
  clear hX hI hm hr
  go_enter Tryz.func48, Tryz.ntmps48
  go_upto_region 1 with fail
  generalize hw1 : (w.alloc (.cells (insA I) 64)) = w1 at D ⊢
  clear hw1
  have hne : ¬ mb = w.heap.size := by omega
  have hsz : w.heap.size < w1.heap.size := (unhide D).1.lt
  obtain ⟨b, off, cap, ev, hbl, hall⟩ := (unhide D).2.2.1.slc (by have := h6.1; have := h6.2; omega)
  have m13 := mc_at (unhide D).2.1 13 (v := vr) rfl
  rw [ev] at m13
  obtain ⟨k6, ek6, hk6, r60, r61, r62, r63⟩ := hall (I 6) h6.1 h6.2
  have i6 := ins_at (unhide D).1 6 (v := .int .i64 (I 6)) rfl
  rw [ek6] at i6
  have i1 := ins_at (unhide D).1 1 (v := .int .i64 (I 1)) rfl
  rw [e1] at i1
  have HI1 := hide (fun wx (hx : Ext w1 wx) => (hx.cell (World.block_lt_of_cell? _ _ i1)).trans i1)
  obtain ⟨y, hy⟩ : ∃ y, reg R (I 6) = y := ⟨_, rfl⟩
  rw [hy] at r60 r61 r62 r63
  have HY := hide hy
  clear h6 hall ek6 ev e1 hy
  generalize R.length = n at *
  go_cut [4] (fun p wc => ∃ bc, p = .pointer (some ⟨bc, 0, none⟩) ∧ Hid (Ext w1 wc ∧ Blk wc bc #[.int .i32 (y 0), .int .i32 (y 1), .int .i32 (y 2), .int .i32 (y 3)] 28 ∧ w1.heap.size ≤ bc))
  case first =>
    have HCL := hide (fun wx (hx : Ext w1 wx) => show wx.cell? ⟨mb, 13, none⟩ = some (.slice (some ⟨b, off, none⟩) n cap) ∧ wx.cell? ⟨w.heap.size, 6, none⟩ = some (.int .i64 (k6 : Int)) ∧ wx.cell? ⟨b, off + k6 * 4, none⟩ = some (.int .i32 (y 0)) ∧ wx.cell? ⟨b, off + k6 * 4 + 1, none⟩ = some (.int .i32 (y 1)) ∧ wx.cell? ⟨b, off + k6 * 4 + 2, none⟩ = some (.int .i32 (y 2)) ∧ wx.cell? ⟨b, off + k6 * 4 + 3, none⟩ = some (.int .i32 (y 3)) from
      ⟨(hx.cell (World.block_lt_of_cell? _ _ m13)).trans m13, (hx.cell (World.block_lt_of_cell? _ _ i6)).trans i6, (hx.cell (World.block_lt_of_cell? _ _ r60)).trans r60, (hx.cell (World.block_lt_of_cell? _ _ r61)).trans r61, (hx.cell (World.block_lt_of_cell? _ _ r62)).trans r62, (hx.cell (World.block_lt_of_cell? _ _ r63)).trans r63⟩)
    go_region_held3 (fun wx => wx.cell? ⟨mb, 13, none⟩ = some (.slice (some ⟨b, off, none⟩) n cap) ∧ wx.cell? ⟨w.heap.size, 6, none⟩ = some (.int .i64 (k6 : Int)) ∧ wx.cell? ⟨b, off + k6 * 4, none⟩ = some (.int .i32 (y 0)) ∧ wx.cell? ⟨b, off + k6 * 4 + 1, none⟩ = some (.int .i32 (y 1)) ∧ wx.cell? ⟨b, off + k6 * 4 + 2, none⟩ = some (.int .i32 (y 2)) ∧ wx.cell? ⟨b, off + k6 * 4 + 3, none⟩ = some (.int .i32 (y 3)))
      (first | with_reducible exact unhide HCL _ ((Ext.refl _).drew) | with_reducible exact unhide HCL _ (((Ext.refl _).alloc _).drew) | with_reducible exact unhide HCL _ ((Ext.refl _).alloc _))
      (fail)
    all_goals go_wp2
    all_goals go_meet
    all_goals first | exact ⟨w1.heap.size, rfl, ((Ext.refl w1).drew).alloc _, Blk.at rfl, Nat.le_refl _⟩ | exact ⟨w1.heap.size, rfl, ((Ext.refl w1).alloc _).drew, (Blk.new w1 _ _).ext ((Ext.refl _).drew), Nat.le_refl _⟩ | exact ⟨w1.heap.size, rfl, (Ext.refl w1).alloc _, Blk.new w1 _ _, Nat.le_refl _⟩
  case rest =>
  obtain ⟨bc, rfl, hcut⟩ := hcut
  rename_i wc
  have hx := (unhide hcut).1
  have hbc := (unhide hcut).2.2
  have C := hide (unhide hcut).2.1
  obtain ⟨c0, c1, c2, c3⟩ := (unhide C).vec4
  have hbm : ¬ mb = bc := by omega
  have j1 := unhide HI1 wc hx
  have M := hide ((unhide D).2.1.ext hx)
  have X := hide ((unhide D).2.2.2.trans hx)
  clear D i1 m13 i6 r60 r61 r62 r63 HI1 hx hcut
  have x0 := mc_at (unhide M) 18 (v := .int .i32 O.sz) rfl
  have z0 := (unhide M).free 18
  go_wp2
  refine bodyPost_end (v := .tuple #[]) (by simp [results, Tryz.results48, go_sem]) rfl ⟨rfl, ?_, ?_⟩
  · rw [unhide HY, ← mc_sz]
    exact (unhide M).set 18 _
  · exact grown_ext (unhide X) (grownBy_set _ _ _ _)

set_option maxRecDepth 10000 in
set_option maxHeartbeats 4000000 in
theorem store_4 {w : World} {mb : Nat} {E : EnvC} {vr : Value} {O : OutC} {R : List (Nat → Int)} (I : Nat → Int) (e1 : I 1 = 4) (hm : Blk w mb (mcA E vr O) 75) (hr : VRow w vr R) (h6 : 0 ≤ I 6 ∧ I 6 < (R.length : Int)) :
    Calls Tryz.prog 48 #[.pointer (some ⟨mb, 0, none⟩), .agg (insA I)] w fun e w' => e = .returned (.tuple #[]) ∧ Blk w' mb (mcA E vr { O with cl := reg R (I 6) }) 75 ∧ w.grownBy w' (some mb) := by
  have hX : Ext w (w.alloc (.cells (insA I) 64)) := (Ext.refl w).alloc _
  have hI : Blk (w.alloc (.cells (insA I) 64)) w.heap.size (insA I) 64 := Blk.new w _ _
  have D := hide (And.intro hI (And.intro (hm.ext hX) (And.intro (hr.ext hX) hX)))
  have HM := hide hm
  have hmb := hm.lt
  clear hX hI hm hr
  go_enter Tryz.func48, Tryz.ntmps48
  go_upto_region 1 with fail
  generalize hw1 : (w.alloc (.cells (insA I) 64)) = w1 at D ⊢
  clear hw1
  have hne : ¬ mb = w.heap.size := by omega
  have hsz : w.heap.size < w1.heap.size := (unhide D).1.lt
  obtain ⟨b, off, cap, ev, hbl, hall⟩ := (unhide D).2.2.1.slc (by have := h6.1; have := h6.2; omega)
  have m13 := mc_at (unhide D).2.1 13 (v := vr) rfl
  rw [ev] at m13
  obtain ⟨k6, ek6, hk6, r60, r61, r62, r63⟩ := hall (I 6) h6.1 h6.2
  have i6 := ins_at (unhide D).1 6 (v := .int .i64 (I 6)) rfl
  rw [ek6] at i6
  have i1 := ins_at (unhide D).1 1 (v := .int .i64 (I 1)) rfl
  rw [e1] at i1
  have HI1 := hide (fun wx (hx : Ext w1 wx) => (hx.cell (World.block_lt_of_cell? _ _ i1)).trans i1)
  obtain ⟨y, hy⟩ : ∃ y, reg R (I 6) = y := ⟨_, rfl⟩
  rw [hy] at r60 r61 r62 r63
  have HY := hide hy
  clear h6 hall ek6 ev e1 hy
  generalize R.length = n at *
  go_cut [4] (fun p wc => ∃ bc, p = .pointer (some ⟨bc, 0, none⟩) ∧ Hid (Ext w1 wc ∧ Blk wc bc #[.int .i32 (y 0), .int .i32 (y 1), .int .i32 (y 2), .int .i32 (y 3)] 28 ∧ w1.heap.size ≤ bc))
  case first =>
    have HCL := hide (fun wx (hx : Ext w1 wx) => show wx.cell? ⟨mb, 13, none⟩ = some (.slice (some ⟨b, off, none⟩) n cap) ∧ wx.cell? ⟨w.heap.size, 6, none⟩ = some (.int .i64 (k6 : Int)) ∧ wx.cell? ⟨b, off + k6 * 4, none⟩ = some (.int .i32 (y 0)) ∧ wx.cell? ⟨b, off + k6 * 4 + 1, none⟩ = some (.int .i32 (y 1)) ∧ wx.cell? ⟨b, off + k6 * 4 + 2, none⟩ = some (.int .i32 (y 2)) ∧ wx.cell? ⟨b, off + k6 * 4 + 3, none⟩ = some (.int .i32 (y 3)) from
      ⟨(hx.cell (World.block_lt_of_cell? _ _ m13)).trans m13, (hx.cell (World.block_lt_of_cell? _ _ i6)).trans i6, (hx.cell (World.block_lt_of_cell? _ _ r60)).trans r60, (hx.cell (World.block_lt_of_cell? _ _ r61)).trans r61, (hx.cell (World.block_lt_of_cell? _ _ r62)).trans r62, (hx.cell (World.block_lt_of_cell? _ _ r63)).trans r63⟩)
    go_region_held3 (fun wx => wx.cell? ⟨mb, 13, none⟩ = some (.slice (some ⟨b, off, none⟩) n cap) ∧ wx.cell? ⟨w.heap.size, 6, none⟩ = some (.int .i64 (k6 : Int)) ∧ wx.cell? ⟨b, off + k6 * 4, none⟩ = some (.int .i32 (y 0)) ∧ wx.cell? ⟨b, off + k6 * 4 + 1, none⟩ = some (.int .i32 (y 1)) ∧ wx.cell? ⟨b, off + k6 * 4 + 2, none⟩ = some (.int .i32 (y 2)) ∧ wx.cell? ⟨b, off + k6 * 4 + 3, none⟩ = some (.int .i32 (y 3)))
      (first | with_reducible exact unhide HCL _ ((Ext.refl _).drew) | with_reducible exact unhide HCL _ (((Ext.refl _).alloc _).drew) | with_reducible exact unhide HCL _ ((Ext.refl _).alloc _))
      (fail)
    all_goals go_wp2
    all_goals go_meet
    all_goals first | exact ⟨w1.heap.size, rfl, ((Ext.refl w1).drew).alloc _, Blk.at rfl, Nat.le_refl _⟩ | exact ⟨w1.heap.size, rfl, ((Ext.refl w1).alloc _).drew, (Blk.new w1 _ _).ext ((Ext.refl _).drew), Nat.le_refl _⟩ | exact ⟨w1.heap.size, rfl, (Ext.refl w1).alloc _, Blk.new w1 _ _, Nat.le_refl _⟩
  case rest =>
  obtain ⟨bc, rfl, hcut⟩ := hcut
  rename_i wc
  have hx := (unhide hcut).1
  have hbc := (unhide hcut).2.2
  have C := hide (unhide hcut).2.1
  obtain ⟨c0, c1, c2, c3⟩ := (unhide C).vec4
  have hbm : ¬ mb = bc := by omega
  have j1 := unhide HI1 wc hx
  have M := hide ((unhide D).2.1.ext hx)
  have X := hide ((unhide D).2.2.2.trans hx)
  clear D i1 m13 i6 r60 r61 r62 r63 HI1 hx hcut
  have m0 := (unhide M).free 20
  have x0 := mc_at (unhide M) 20 (v := .int .i32 (O.cl 0)) rfl
  have z0 := (unhide M).free 20
  have x1 := mc_at (unhide M) 21 (v := .int .i32 (O.cl 1)) rfl
  have z1 := (unhide M).free 21
  have x2 := mc_at (unhide M) 22 (v := .int .i32 (O.cl 2)) rfl
  have z2 := (unhide M).free 22
  have x3 := mc_at (unhide M) 23 (v := .int .i32 (O.cl 3)) rfl
  have z3 := (unhide M).free 23
  go_wp2
  refine bodyPost_end (v := .tuple #[]) (by simp [results, Tryz.results48, go_sem]) rfl ⟨rfl, ?_, ?_⟩
  · rw [unhide HY, ← mc_cl]
    exact (unhide M).blk4 _ _ _ _
  · exact grown_ext (unhide X) (grown4 _ _ _ _ _ _ _ _ _ _)

set_option maxRecDepth 10000 in
set_option maxHeartbeats 4000000 in
theorem store_3 {w : World} {mb : Nat} {E : EnvC} {vr : Value} {O : OutC} {R : List (Nat → Int)} (I : Nat → Int) (e1 : I 1 = 3) (hm : Blk w mb (mcA E vr O) 75) (hr : VRow w vr R) (h6 : 0 ≤ I 6 ∧ I 6 < (R.length : Int)) {base : Nat} {V : List (Nat → Int)} (hv : OV w base O.vy V) (h5 : 0 ≤ I 5 ∧ I 5 < (V.length : Int)) (hvm : ∀ g, O.vy.ownBlock = some g → g ≠ mb) :
    Calls Tryz.prog 48 #[.pointer (some ⟨mb, 0, none⟩), .agg (insA I)] w fun e w' => e = .returned (.tuple #[]) ∧ ∃ g, O.vy.ownBlock = some g ∧ OV w' base O.vy (V.set (I 5).toNat (reg R (I 6))) ∧ w.grownBy w' (some g) := by
  have hX : Ext w (w.alloc (.cells (insA I) 64)) := (Ext.refl w).alloc _
  have hI : Blk (w.alloc (.cells (insA I) 64)) w.heap.size (insA I) 64 := Blk.new w _ _
  have D := hide (And.intro hI (And.intro (hm.ext hX) (And.intro (hr.ext hX) hX)))
  have HM := hide hm
  have hmb := hm.lt
  clear hX hI hm hr
  go_enter Tryz.func48, Tryz.ntmps48
  go_upto_region 1 with fail
  generalize hw1 : (w.alloc (.cells (insA I) 64)) = w1 at D ⊢
  clear hw1
  have hne : ¬ mb = w.heap.size := by omega
  have hsz : w.heap.size < w1.heap.size := (unhide D).1.lt
  obtain ⟨b, off, cap, ev, hbl, hall⟩ := (unhide D).2.2.1.slc (by have := h6.1; have := h6.2; omega)
  have m13 := mc_at (unhide D).2.1 13 (v := vr) rfl
  rw [ev] at m13
  obtain ⟨k6, ek6, hk6, r60, r61, r62, r63⟩ := hall (I 6) h6.1 h6.2
  have i6 := ins_at (unhide D).1 6 (v := .int .i64 (I 6)) rfl
  rw [ek6] at i6
  have i1 := ins_at (unhide D).1 1 (v := .int .i64 (I 1)) rfl
  rw [e1] at i1
  have HI1 := hide (fun wx (hx : Ext w1 wx) => (hx.cell (World.block_lt_of_cell? _ _ i1)).trans i1)
  obtain ⟨y, hy⟩ : ∃ y, reg R (I 6) = y := ⟨_, rfl⟩
  rw [hy] at r60 r61 r62 r63
  have HY := hide hy
  clear h6 hall ek6 ev e1 hy
  generalize R.length = n at *
  go_cut [4] (fun p wc => ∃ bc, p = .pointer (some ⟨bc, 0, none⟩) ∧ Hid (Ext w1 wc ∧ Blk wc bc #[.int .i32 (y 0), .int .i32 (y 1), .int .i32 (y 2), .int .i32 (y 3)] 28 ∧ w1.heap.size ≤ bc))
  case first =>
    have HCL := hide (fun wx (hx : Ext w1 wx) => show wx.cell? ⟨mb, 13, none⟩ = some (.slice (some ⟨b, off, none⟩) n cap) ∧ wx.cell? ⟨w.heap.size, 6, none⟩ = some (.int .i64 (k6 : Int)) ∧ wx.cell? ⟨b, off + k6 * 4, none⟩ = some (.int .i32 (y 0)) ∧ wx.cell? ⟨b, off + k6 * 4 + 1, none⟩ = some (.int .i32 (y 1)) ∧ wx.cell? ⟨b, off + k6 * 4 + 2, none⟩ = some (.int .i32 (y 2)) ∧ wx.cell? ⟨b, off + k6 * 4 + 3, none⟩ = some (.int .i32 (y 3)) from
      ⟨(hx.cell (World.block_lt_of_cell? _ _ m13)).trans m13, (hx.cell (World.block_lt_of_cell? _ _ i6)).trans i6, (hx.cell (World.block_lt_of_cell? _ _ r60)).trans r60, (hx.cell (World.block_lt_of_cell? _ _ r61)).trans r61, (hx.cell (World.block_lt_of_cell? _ _ r62)).trans r62, (hx.cell (World.block_lt_of_cell? _ _ r63)).trans r63⟩)
    go_region_held3 (fun wx => wx.cell? ⟨mb, 13, none⟩ = some (.slice (some ⟨b, off, none⟩) n cap) ∧ wx.cell? ⟨w.heap.size, 6, none⟩ = some (.int .i64 (k6 : Int)) ∧ wx.cell? ⟨b, off + k6 * 4, none⟩ = some (.int .i32 (y 0)) ∧ wx.cell? ⟨b, off + k6 * 4 + 1, none⟩ = some (.int .i32 (y 1)) ∧ wx.cell? ⟨b, off + k6 * 4 + 2, none⟩ = some (.int .i32 (y 2)) ∧ wx.cell? ⟨b, off + k6 * 4 + 3, none⟩ = some (.int .i32 (y 3)))
      (first | with_reducible exact unhide HCL _ ((Ext.refl _).drew) | with_reducible exact unhide HCL _ (((Ext.refl _).alloc _).drew) | with_reducible exact unhide HCL _ ((Ext.refl _).alloc _))
      (fail)
    all_goals go_wp2
    all_goals go_meet
    all_goals first | exact ⟨w1.heap.size, rfl, ((Ext.refl w1).drew).alloc _, Blk.at rfl, Nat.le_refl _⟩ | exact ⟨w1.heap.size, rfl, ((Ext.refl w1).alloc _).drew, (Blk.new w1 _ _).ext ((Ext.refl _).drew), Nat.le_refl _⟩ | exact ⟨w1.heap.size, rfl, (Ext.refl w1).alloc _, Blk.new w1 _ _, Nat.le_refl _⟩
  case rest =>
  obtain ⟨bc, rfl, hcut⟩ := hcut
  rename_i wc
  have hx := (unhide hcut).1
  have hbc := (unhide hcut).2.2
  have C := hide (unhide hcut).2.1
  obtain ⟨c0, c1, c2, c3⟩ := (unhide C).vec4
  have hbm : ¬ mb = bc := by omega
  have j1 := unhide HI1 wc hx
  have M := hide ((unhide D).2.1.ext hx)
  have X := hide ((unhide D).2.2.2.trans hx)
  obtain ⟨gv, nv, cv, evy⟩ : ∃ gv nv cv, O.vy = .slice (some ⟨gv, 0, none⟩) nv cv := by
    rcases hv.2 with ⟨e, h0⟩ | ⟨g, cap, cur, e, _⟩
    · omega
    · exact ⟨g, _, cap, e⟩
  have hnv : nv = V.length := by
    obtain ⟨_, _, e, _⟩ := GO.shape hv
    rw [evy] at e
    cases e
    rfl
  subst hnv
  rw [evy] at hv
  have HV := hide hv
  have HVX := hide (OV.ext9 hv ((unhide D).2.2.2.trans hx))
  obtain ⟨k5, ek5⟩ : ∃ k5 : Nat, I 5 = (k5 : Int) := ⟨(I 5).toNat, by omega⟩
  have hk5 : k5 < V.length := by omega
  have hk5i : (k5 : Int) < (V.length : Int) := by omega
  have hgm : gv ≠ mb := hvm gv (by rw [evy]; rfl)
  have hgl : gv < w.heap.size := (GO.lt hv gv rfl).2
  have m19 := mc_at (unhide M) 19 (v := O.vy) rfl
  rw [evy] at m19
  have j5 := ins_at ((unhide D).1.ext hx) 5 (v := .int .i64 (I 5)) rfl
  rw [ek5] at j5
  have HT := hide (show (I 5).toNat = k5 by omega)
  have HEV := hide evy
  obtain ⟨g', e', _, _, hcell⟩ := GO.at vEnc_len (unhide HVX) k5 hk5
  cases e'
  have v0 := hcell 0 _ (by omega) rfl
  have v1 := hcell 1 _ (by omega) rfl
  have v2 := hcell 2 _ (by omega) rfl
  have v3 := hcell 3 _ (by omega) rfl
  simp only [Nat.add_zero] at v0
  have w0 := (unhide HVX).frozen (k5 * 4)
  have w1f := (unhide HVX).frozen (k5 * 4 + 1)
  have w2f := (unhide HVX).frozen (k5 * 4 + 2)
  have w3f := (unhide HVX).frozen (k5 * 4 + 3)
  have hwz : w.heap.size ≠ gv := by omega
  have hbg : bc ≠ gv := by omega
  have hmg : mb ≠ gv := fun e => hgm e.symm
  generalize V[k5] = u5 at v0 v1 v2 v3
  have HK := hide hk5
  clear D i1 m13 i6 r60 r61 r62 r63 HI1 hx hcut hv hvm h5 evy hcell ek5 hk5
  generalize hVl : V.length = nv at *
  go_upto_region 8 with fail
  have HCL := hide (fun wx (hg : wc.grownBy wx (some gv)) => show wx.cell? ⟨mb, 19, none⟩ = some (.slice (some ⟨gv, 0, none⟩) nv cv) ∧ wx.cell? ⟨w.heap.size, 5, none⟩ = some (.int .i64 (k5 : Int)) ∧ wx.cell? ⟨bc, 0, none⟩ = some (.int .i32 (y 0)) ∧ wx.cell? ⟨bc, 1, none⟩ = some (.int .i32 (y 1)) ∧ wx.cell? ⟨bc, 2, none⟩ = some (.int .i32 (y 2)) ∧ wx.cell? ⟨bc, 3, none⟩ = some (.int .i32 (y 3)) from
    ⟨cell_grown hg m19 (by first | assumption | omega), cell_grown hg j5 (by first | assumption | omega), cell_grown hg c0 (by first | assumption | omega), cell_grown hg c1 (by first | assumption | omega), cell_grown hg c2 (by first | assumption | omega), cell_grown hg c3 (by first | assumption | omega)⟩)
  go_region_held3 (fun wx => wx.cell? ⟨mb, 19, none⟩ = some (.slice (some ⟨gv, 0, none⟩) nv cv) ∧ wx.cell? ⟨w.heap.size, 5, none⟩ = some (.int .i64 (k5 : Int)) ∧ wx.cell? ⟨bc, 0, none⟩ = some (.int .i32 (y 0)) ∧ wx.cell? ⟨bc, 1, none⟩ = some (.int .i32 (y 1)) ∧ wx.cell? ⟨bc, 2, none⟩ = some (.int .i32 (y 2)) ∧ wx.cell? ⟨bc, 3, none⟩ = some (.int .i32 (y 3)))
    (first | with_reducible exact unhide HCL _ (grown_ofExt _ ((Ext.refl _).drew)) | with_reducible exact unhide HCL _ (grown_set4 ((Ext.refl _).drew)))
    (fail)
  all_goals go_wp2
  all_goals refine bodyPost_end (v := .tuple #[]) (by simp [results, Tryz.results48, go_sem]) rfl ⟨rfl, gv, by rw [unhide HEV]; rfl, ?_, ?_⟩
  · rw [unhide HEV, unhide HT, unhide HY]
    subst hVl
    exact OV.ext9 ((unhide HVX).store k5 (unhide HK) y) ((Ext.refl _).drew)
  · exact grown_ext (unhide X) (grown_set4 ((Ext.refl _).drew))

end Go.Proofs.YtgmahpkhdnabjaaGreat
