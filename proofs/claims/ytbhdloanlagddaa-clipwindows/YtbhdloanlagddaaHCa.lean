/-
  The law's corners, and that the layer does something. What the dump lacks is left out.
-/
import Derived.Test.YtbhdloanlagddaaHAj
namespace Go.Proofs.Ytbhdloanlagddaa
open Go.RowKit
set_option linter.unusedVariables false
set_option linter.unusedSimpArgs false

theorem atL_any (x y z q : Int) (w : World) : Calls Try.prog 29 #[.int .i32 x, .int .i32 y, .int .i32 z, .int .i32 q] w fun e w' => e = .returned (.agg #[.int .i32 x, .int .i32 y, .int .i32 z, .int .i32 q, .int .i32 0, .slice none 0 0]) ∧ Ext w w' := by
  have HE := hide (show Ext w (w.alloc (.cells #[.int .i32 x, .int .i32 y, .int .i32 z, .int .i32 q, .int .i32 0, .slice none 0 0] 29)) from (Ext.refl w).alloc _)
  go_enter Try.func29, Try.ntmps29
  go_wp2
  refine bodyPost_ret (v := .agg #[.int .i32 x, .int .i32 y, .int .i32 z, .int .i32 q, .int .i32 0, .slice none 0 0]) (by simp [results, Try.results29, go_sem]) rfl ⟨rfl, ?_⟩
  exact unhide HE
def pt21 (x y z q : Int) : Vt := ⟨fun i => if i = 0 then x else if i = 1 then y else if i = 2 then z else q, 0, []⟩
def vw21 : Vw := ⟨0, 0, 4, 4, 0, 65536⟩
theorem pt21_32 {x y z q : Int} (hx : I32 x) (hy : I32 y) (hz : I32 z) (hq : I32 q) : Vt32 (pt21 x y z q) := by
  refine ⟨fun i => ?_, (by show I32 0; unfold I32; omega), fun c hc => by cases hc⟩
  show I32 (if i = 0 then x else if i = 1 then y else if i = 2 then z else q)
  split; exact hx
  split; exact hy
  split; exact hz
  exact hq
theorem vq_nil (w : World) : VQ w (.slice none 0 0) [] := SR.nil w
theorem win21 (wx : World) : Calls Try.prog 24 #[.agg #[.int .i64 0, .int .i64 0, .int .i64 4, .int .i64 4, .int .i32 0, .int .i32 65536], .agg #[.int .i32 0, .int .i32 0, .int .i32 0, .int .i32 65536, .int .i32 0, .slice none 0 0]] wx fun e w' => ∃ u' ao cap, e = .returned (.tuple #[.agg #[.int .i64 512, .int .i64 512, .int .i32 32768, .int .i32 65536, .int .i32 0, u'], .int .i64 0]) ∧ u' = .slice ao 0 cap ∧ Ext wx w' := by
  have z : I32 0 := by unfold I32; omega
  have o : I32 65536 := by unfold I32; omega
  refine (windowC_any vw21 (pt21 0 0 0 65536) (.slice none 0 0) wx (vq_nil wx) (pt21_32 z z z o)).mono ?_
  intro e w' h
  unfold WdQ at h
  rw [if_pos (by decide)] at h
  obtain ⟨u', rfl, _, _, ⟨ao, cap, rfl⟩, hx⟩ := h
  exact ⟨_, ao, cap, rfl, rfl, hx⟩
theorem tri21_len : (triP vw21 [pt21 0 0 0 65536, pt21 131072 0 0 65536, pt21 0 65536 0 65536]).length = 2 := by kernel_rfl
theorem tri21 (wx : World) : Calls Try.prog 10 #[.agg #[.int .i64 0, .int .i64 0, .int .i64 4, .int .i64 4, .int .i32 0, .int .i32 65536], .agg #[.int .i32 0, .int .i32 0, .int .i32 0, .int .i32 65536, .int .i32 0, .slice none 0 0], .agg #[.int .i32 131072, .int .i32 0, .int .i32 0, .int .i32 65536, .int .i32 0, .slice none 0 0], .agg #[.int .i32 0, .int .i32 65536, .int .i32 0, .int .i32 65536, .int .i32 0, .slice none 0 0]] wx fun e w' => ∃ ao cap, e = .returned (.tuple #[.slice ao 2 cap, .int .i64 0]) ∧ Ext wx w' := by
  have z : I32 0 := by unfold I32; omega
  have o : I32 65536 := by unfold I32; omega
  have t : I32 131072 := by unfold I32; omega
  refine (triC_any vw21 (pt21 0 0 0 65536) (pt21 131072 0 0 65536) (pt21 0 65536 0 65536) (.slice none 0 0) (.slice none 0 0) (.slice none 0 0) wx (vq_nil wx) (vq_nil wx) (vq_nil wx) (pt21_32 z z z o) (pt21_32 t z z o) (pt21_32 z o z o)).mono ?_
  intro e w' h
  unfold TrQ at h
  rw [if_pos (by decide)] at h
  obtain ⟨v', R', rfl, hm, hr, hx⟩ := h
  obtain ⟨ao, cap, rfl, _⟩ := hr.row
  have hl : R'.length = 2 := by
    have h1 := congrArg List.length hm
    rw [List.length_map] at h1
    exact h1.trans tri21_len
  rw [hl]
  exact ⟨ao, cap, rfl, hx⟩

set_option maxRecDepth 10000 in
set_option maxHeartbeats 4000000 in
theorem wakes21_any (w : World) : Calls Try.prog 9 #[] w fun e w' => e = .returned (.bool true) ∧ Ext w w' := by
  have hV : Blk (w.alloc (.cells #[.int .i64 0, .int .i64 0, .int .i64 4, .int .i64 4, .int .i32 0, .int .i32 65536] 24)) w.heap.size #[.int .i64 0, .int .i64 0, .int .i64 4, .int .i64 4, .int .i32 0, .int .i32 65536] 24 := Blk.new _ _ _
  have hX : Ext w (w.alloc (.cells #[.int .i64 0, .int .i64 0, .int .i64 4, .int .i64 4, .int .i32 0, .int .i32 65536] 24)) := (Ext.refl w).alloc _
  obtain ⟨wc, hwc⟩ : ∃ wc, wc = w.alloc (.cells #[.int .i64 0, .int .i64 0, .int .i64 4, .int .i64 4, .int .i32 0, .int .i32 65536] 24) := ⟨_, rfl⟩
  rw [← hwc] at hV hX
  have HB := hide (And.intro hV hX)
  clear hV hX
  go_enter Try.func9, Try.ntmps9
  go_upto_region 2 with fail
  rw [← hwc]
  clear hwc
  have kv0 : ∀ wy, Ext wc wy → wy.cell? ⟨w.heap.size, 0, none⟩ = some (.int .i64 0) := fun wy hy => ((unhide HB).1.ext hy).six.1
  have kv1 : ∀ wy, Ext wc wy → wy.cell? ⟨w.heap.size, 1, none⟩ = some (.int .i64 0) := fun wy hy => ((unhide HB).1.ext hy).six.2.1
  have kv2 : ∀ wy, Ext wc wy → wy.cell? ⟨w.heap.size, 2, none⟩ = some (.int .i64 4) := fun wy hy => ((unhide HB).1.ext hy).six.2.2.1
  have kv3 : ∀ wy, Ext wc wy → wy.cell? ⟨w.heap.size, 3, none⟩ = some (.int .i64 4) := fun wy hy => ((unhide HB).1.ext hy).six.2.2.2.1
  have kv4 : ∀ wy, Ext wc wy → wy.cell? ⟨w.heap.size, 4, none⟩ = some (.int .i32 0) := fun wy hy => ((unhide HB).1.ext hy).six.2.2.2.2.1
  have kv5 : ∀ wy, Ext wc wy → wy.cell? ⟨w.heap.size, 5, none⟩ = some (.int .i32 65536) := fun wy hy => ((unhide HB).1.ext hy).six.2.2.2.2.2
  go_cut [2, 3] (fun u1 u2 wz => ∃ wd b ao cap, wd = wz ∧ u1 = .pointer (some ⟨b, 0, none⟩) ∧ u2 = .int .i64 0 ∧ Blk wd b #[.int .i64 512, .int .i64 512, .int .i32 32768, .int .i32 65536, .int .i32 0, .slice ao 0 cap] 44 ∧ Ext wc wd)
  case first =>
    have HZ0 := hide (show wc.heap.size ≤ wc.heap.size from Nat.le_refl _)
    go_region_held3 (fun wx => Ext wc wx)
      (first | with_reducible exact unhide E6 | with_reducible exact unhide E5 | with_reducible exact (Ext.refl wc).drew | with_reducible exact ((Ext.refl wc).alloc _).drew | with_reducible exact (unhide E5).alloc _ | with_reducible exact (unhide E6).alloc _ | with_reducible exact ext_lay6 (unhide E6) (unhide HZ0) | with_reducible exact ext_lay6 (unhide E6) (unhide HZ5))
      (first
        | (go_at_call 29; refine (atL_any _ _ _ _ _).mono ?_; rintro e w5 ⟨rfl, hx5⟩; have E5 := hide ((by assumption : Ext wc _).trans hx5); have HZ5 := hide (Below.size (unhide E5)); (try have F1 := hide (show Blk w5 wc.heap.size #[.int .i64 0, .int .i64 0, .int .i32 0, .int .i32 0, .int .i32 0, .slice none 0 0] 44 by with_reducible exact Blk.ext (Blk.ext (Blk.new wc #[.int .i64 0, .int .i64 0, .int .i32 0, .int .i32 0, .int .i32 0, .slice none 0 0] 44) ((Ext.refl _).drew)) hx5)); clear hx5)
        | (go_at_call 24; refine (win21 _).mono ?_; rintro e w6 ⟨u6, ao6, cap6, rfl, rfl, hx6⟩; have E6 := hide ((by assumption : Ext wc _).trans hx6); (try have F2 := hide (show Blk w6 wc.heap.size #[.int .i64 0, .int .i64 0, .int .i32 0, .int .i32 0, .int .i32 0, .slice none 0 0] 44 by with_reducible exact Blk.ext (unhide F1) hx6)); (try have F2 := hide (show Blk w6 w5.heap.size #[.int .i64 0, .int .i64 0, .int .i32 0, .int .i32 0, .int .i32 0, .slice none 0 0] 44 by with_reducible exact Blk.ext (Blk.new w5 #[.int .i64 0, .int .i64 0, .int .i32 0, .int .i32 0, .int .i32 0, .slice none 0 0] 44) hx6)); (try (obtain ⟨r0, r1, r2, r3, r4, r5⟩ := (unhide F2).six; obtain ⟨f0, f1, f2, f3, f4, f5⟩ := (unhide F2).free6)); clear hx6))
    all_goals go_wp2
    all_goals go_meet
    all_goals refine ⟨_, _, ao6, cap6, rfl, rfl, rfl, ?_, ?_⟩
    all_goals first
      | with_reducible exact Blk.new _ _ _
      | with_reducible exact (unhide F2).put6 _ _ _ _ _ _
      | with_reducible exact (unhide E6).alloc _
      | with_reducible exact ext_lay6 (unhide E6) (unhide HZ5)
      | with_reducible exact ext_lay6 (unhide E6) (unhide HZ0)
  case rest =>
  obtain ⟨wd, b, ao, cap, rfl, rfl, rfl, hW, hXd⟩ := hcut
  have X6 := hide hXd
  have HWB := hide hW
  clear kv0 kv1 kv2 kv3 kv4 kv5 hXd hW
  have kv0 : ∀ wy, Ext wd wy → wy.cell? ⟨w.heap.size, 0, none⟩ = some (.int .i64 0) := fun wy hy => ((unhide HB).1.ext ((unhide X6).trans hy)).six.1
  have kv1 : ∀ wy, Ext wd wy → wy.cell? ⟨w.heap.size, 1, none⟩ = some (.int .i64 0) := fun wy hy => ((unhide HB).1.ext ((unhide X6).trans hy)).six.2.1
  have kv2 : ∀ wy, Ext wd wy → wy.cell? ⟨w.heap.size, 2, none⟩ = some (.int .i64 4) := fun wy hy => ((unhide HB).1.ext ((unhide X6).trans hy)).six.2.2.1
  have kv3 : ∀ wy, Ext wd wy → wy.cell? ⟨w.heap.size, 3, none⟩ = some (.int .i64 4) := fun wy hy => ((unhide HB).1.ext ((unhide X6).trans hy)).six.2.2.2.1
  have kv4 : ∀ wy, Ext wd wy → wy.cell? ⟨w.heap.size, 4, none⟩ = some (.int .i32 0) := fun wy hy => ((unhide HB).1.ext ((unhide X6).trans hy)).six.2.2.2.2.1
  have kv5 : ∀ wy, Ext wd wy → wy.cell? ⟨w.heap.size, 5, none⟩ = some (.int .i32 65536) := fun wy hy => ((unhide HB).1.ext ((unhide X6).trans hy)).six.2.2.2.2.2
  go_upto_region 3 with fail
  go_cut [4, 5] (fun u1 u2 wz => ∃ we ao' cap', we = wz ∧ u1 = .slice ao' 2 cap' ∧ u2 = .int .i64 0 ∧ Ext wd we)
  case first =>
    go_region_held3 (fun wx => Ext wd wx)
      (first | with_reducible exact (Ext.refl wd).drew | with_reducible assumption | with_reducible exact unhide G9 | with_reducible exact unhide G5)
      (first
        | (go_at_call 29; refine (atL_any _ _ _ _ _).mono ?_; rintro e w5 ⟨rfl, hx5⟩; have G5 := hide ((by assumption : Ext wd _).trans hx5); clear hx5)
        | (go_at_call 10; refine (tri21 _).mono ?_; rintro e w9 ⟨ao9, cap9, rfl, hx9⟩; have G9 := hide ((by assumption : Ext wd _).trans hx9); clear hx9))
    all_goals go_wp2
    all_goals go_meet
    all_goals exact ⟨_, ao9, cap9, rfl, rfl, rfl, unhide G9⟩
  case rest =>
  obtain ⟨we, ao', cap', rfl, rfl, rfl, hXe⟩ := hcut
  obtain ⟨z0, z1, z2, z3, z4, z5⟩ := ((unhide HWB).ext hXe).six
  have X9 := hide ((unhide HB).2.trans ((unhide X6).trans hXe))
  clear kv0 kv1 kv2 kv3 kv4 kv5 hXe
  go_wp2
  go_ret
  exact ⟨rfl, unhide X9⟩
end Go.Proofs.Ytbhdloanlagddaa
