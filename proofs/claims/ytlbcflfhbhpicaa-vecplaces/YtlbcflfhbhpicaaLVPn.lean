/-
  The walk of VecPlaces: what is no row of places.
-/
import Derived.Test.YtlbcflfhbhpicaaLVPh
namespace Go.Proofs.Ytlbcflfhbhpicaa
open Go.ChangeShapes Go.WideShapes Go.ChangeAt Go.RowKit
set_option linter.unusedVariables false
set_option linter.unusedSimpArgs false

set_option maxHeartbeats 8000000 in
theorem places_none (a b : Nat → Int) (ao : Option Addr) (cap : Nat) (ps : List Int) (w : World) (hrow : Row .i64 w (.slice ao ps.length cap) ps) (hm : ps.length * 8 ≤ 140737488351232) (hg : ¬ Good ps) :
    Calls Try.prog 7 #[.agg #[.int .i32 (a 0), .int .i32 (a 1), .int .i32 (a 2), .int .i32 (a 3), .int .i32 (b 0), .int .i32 (b 1), .int .i32 (b 2), .int .i32 (b 3)], .slice ao ps.length cap] w fun e w' => e = .returned (.bool true) ∧ Ext w w' := by
  have hE := eqV
  have HR := hide hrow
  have HP : Hid (∀ ao cap W, Row .i64 W (.slice ao ps.length cap) ps → Calls Try.prog 23 #[.agg #[.int .i32 (a 0), .int .i32 (a 1), .int .i32 (a 2), .int .i32 (a 3)], .slice ao ps.length cap] W fun e w' => e = .returned (.tuple #[.agg #[.int .i32 (nul 0), .int .i32 (nul 1), .int .i32 (nul 2), .int .i32 (nul 3)], .int .i64 2]) ∧ Ext W w') := fun ao cap W h => pick_bad a ao cap ps W h hg
  have HQ : Hid (∀ ao cap W, Row .i64 W (.slice ao ps.length cap) ps → Calls Try.prog 26 #[.agg #[.int .i32 (a 0), .int .i32 (a 1), .int .i32 (a 2), .int .i32 (a 3)], .agg #[.int .i32 (b 0), .int .i32 (b 1), .int .i32 (b 2), .int .i32 (b 3)], .slice ao ps.length cap] W fun e w' => e = .returned (.tuple #[.agg #[.int .i32 (nul 0), .int .i32 (nul 1), .int .i32 (nul 2), .int .i32 (nul 3)], .int .i64 2]) ∧ Ext W w') := fun ao cap W h => put_bad a b ao cap ps W h (fun x => hg x.1)
  have hm1 : ps.length ≤ maxLen := by unfold maxLen; omega
  have hm2 : ps.length * 8 ≤ 140737488355328 := by omega
  obtain ⟨i0, hi, hz0, hz1, hz2⟩ := info_parts infoInt
  clear hrow
  go_enter Try.func7, Try.ntmps7
  go_wp2_with fail
  refine (wakes_any _).mono ?_
  rintro e w1 ⟨rfl, hx1⟩
  have B := hide ((Blk.at (cs := #[.int .i32 (a 0), .int .i32 (a 1), .int .i32 (a 2), .int .i32 (a 3), .int .i32 (b 0), .int .i32 (b 1), .int .i32 (b 2), .int .i32 (b 3)]) (t := 26) (rfl : w.heap.size = w.heap.size)).ext hx1)
  have X := hide (((Ext.refl w).alloc _).trans hx1)
  have HR1 := hide ((unhide HR).ext (unhide X))
  clear hx1
  obtain ⟨⟨p0, p1, p2, p3⟩, p4, p5, p6, p7⟩ := held_pair (unhide B)
  go_upto_region 3 with fail
  go_cut [5, 6] from 9 (fun s5 s6 wc => ∃ r, s5 = .pointer (some ⟨r, 0, none⟩) ∧ s6 = .int .i64 2 ∧ Blk wc r #[.int .i32 (nul 0), .int .i32 (nul 1), .int .i32 (nul 2), .int .i32 (nul 3)] 24 ∧ Ext w1 wc)
  case first =>
    go_region_held3 (fun w' => Ext w1 w')
      (first | with_reducible exact bx | with_reducible exact bx.alloc _ | with_reducible exact ext_set4 bx (by omega) | with_reducible exact (Ext.refl w1).drew | with_reducible exact ext_1 w1 _ | with_reducible exact ext_2 w1 _ _)
      (first | (go_at_call 23; refine (unhide HP ao2 cap2 _ (by first | with_reducible exact unhide HRow2 | exact (unhide HRow2).ext ((Ext.refl w2).alloc _))).mono ?_; rintro e w3 ⟨rfl, hx3⟩; have bx : Ext w1 w3 := (by first | with_reducible exact bx.trans hx3 | exact (bx.alloc _).trans hx3); (first | (have RB := hide ((unhide RB).ext hx3); obtain ⟨r0, r1, r2, r3⟩ := (unhide RB).vec4; obtain ⟨f0, f1, f2, f3⟩ := (unhide RB).free4) | (have RB := hide ((Blk.at (w := w2) (cs := #[.int .i32 (nul 0), .int .i32 (nul 1), .int .i32 (nul 2), .int .i32 (nul 3)]) (t := 24) rfl).ext hx3); obtain ⟨r0, r1, r2, r3⟩ := (unhide RB).vec4; obtain ⟨f0, f1, f2, f3⟩ := (unhide RB).free4) | skip)) | (have hh : Ext w1 ((w1.alloc (.cells #[] 3)).alloc (.cells #[.int .i32 0, .int .i32 0, .int .i32 0, .int .i32 0] 24)).drew := (by with_reducible assumption); refine step_append_R rfl (.tmp 14) (.tmp 15) 45 rfl 3 i0 .i64 8 Try.underlying45 hi hz0 hz1 hz2 w1 ps (.slice ao ps.length cap) (unhide HR1) hm1 hm2 (w1.heap.size) rfl rfl (Nat.le_refl _) hh (heap_at2a w1 _ _) ?_; intro ao2 cap2 w2 hrow2 bx hB; have HRow2 := hide hrow2; have sz2 := bx.size; have RB : Hid (Blk w2 (w1.heap.size + 1) #[.int .i32 (nul 0), .int .i32 (nul 1), .int .i32 (nul 2), .int .i32 (nul 3)] 24) := hB _ _ _ (by omega) (heap_at2b w1 _ (.cells #[.int .i32 (nul 0), .int .i32 (nul 1), .int .i32 (nul 2), .int .i32 (nul 3)] 24)); clear hrow2 hB hh) | (have hh : Ext w1 ((w1.alloc (.cells #[.int .i32 0, .int .i32 0, .int .i32 0, .int .i32 0] 24)).alloc (.cells #[] 3)).drew := (by with_reducible assumption); refine step_append_R rfl (.tmp 14) (.tmp 15) 45 rfl 3 i0 .i64 8 Try.underlying45 hi hz0 hz1 hz2 w1 ps (.slice ao ps.length cap) (unhide HR1) hm1 hm2 (w1.heap.size + 1) rfl rfl (Nat.le_add_right _ 1) hh (heap_at2b w1 _ _) ?_; intro ao2 cap2 w2 hrow2 bx hB; have HRow2 := hide hrow2; have sz2 := bx.size; have RB : Hid (Blk w2 w1.heap.size #[.int .i32 (nul 0), .int .i32 (nul 1), .int .i32 (nul 2), .int .i32 (nul 3)] 24) := hB _ _ _ (by omega) (heap_at2a w1 (.cells #[.int .i32 (nul 0), .int .i32 (nul 1), .int .i32 (nul 2), .int .i32 (nul 3)] 24) _); clear hrow2 hB hh) | (have hh : Ext w1 (w1.alloc (.cells #[] 3)).drew := (by with_reducible assumption); refine step_append_R rfl (.tmp 14) (.tmp 15) 45 rfl 3 i0 .i64 8 Try.underlying45 hi hz0 hz1 hz2 w1 ps (.slice ao ps.length cap) (unhide HR1) hm1 hm2 (w1.heap.size) rfl rfl (Nat.le_refl _) hh (heap_at1 w1 _) ?_; intro ao2 cap2 w2 hrow2 bx hB; have HRow2 := hide hrow2; have sz2 := bx.size; clear hrow2 hB hh))
    all_goals go_wp2
    all_goals go_meet
    all_goals refine ⟨_, rfl, rfl, ?_, ?_⟩
    all_goals first | (with_reducible exact bx.alloc _) | (with_reducible exact ext_set4 bx (by omega)) | (with_reducible exact Blk.at rfl) | (with_reducible exact blk_set4 (unhide RB) _ _ _ _)
  case rest =>
  obtain ⟨r, rfl, rfl, hV, hx⟩ := hcut
  have V2 := hide hV
  have B2 := hide ((unhide B).ext hx)
  have X2 := hide ((unhide X).trans hx)
  clear hV hx B X p0 p1 p2 p3 p4 p5 p6 p7 HR1
  go_wp2_with fail
  refine (refRight_any ao cap ps false false _ ((unhide HR).ext (unhide X2)) ⟨fun h => (by cases h), fun h => absurd h.1 hg⟩).mono ?_
  rintro e w5 ⟨rfl, hx⟩
  have V4 := hide ((unhide V2).ext hx)
  have B5 := hide ((unhide B2).ext hx)
  have X5 := hide ((unhide X2).trans hx)
  clear hx V2 B2 X2
  obtain ⟨c0, c1, c2, c3⟩ := (unhide V4).vec4
  unfold nul at c0 c1 c2 c3
  have HR5 := hide ((unhide HR).ext (unhide X5))
  obtain ⟨⟨p0, p1, p2, p3⟩, p4, p5, p6, p7⟩ := held_pair (unhide B5)
  go_upto_region 9 with fail
  clear c0 c1 c2 c3 V4
  go_cut [7, 8] from 9 (fun s5 s6 wc => ∃ r, s5 = .pointer (some ⟨r, 0, none⟩) ∧ s6 = .int .i64 2 ∧ Blk wc r #[.int .i32 (nul 0), .int .i32 (nul 1), .int .i32 (nul 2), .int .i32 (nul 3)] 24 ∧ Ext w5 wc)
  case first =>
    go_region_held3 (fun w' => Ext w5 w')
      (first | with_reducible exact bx | with_reducible exact bx.alloc _ | with_reducible exact ext_set4 bx (by omega) | with_reducible exact (Ext.refl w5).drew | with_reducible exact ext_1 w5 _ | with_reducible exact ext_2 w5 _ _)
      (first | (go_at_call 26; refine (unhide HQ ao2 cap2 _ (by first | with_reducible exact unhide HRow2 | exact (unhide HRow2).ext ((Ext.refl w2).alloc _))).mono ?_; rintro e w3 ⟨rfl, hx3⟩; have bx : Ext w5 w3 := (by first | with_reducible exact bx.trans hx3 | exact (bx.alloc _).trans hx3); (first | (have RB := hide ((unhide RB).ext hx3); obtain ⟨r0, r1, r2, r3⟩ := (unhide RB).vec4; obtain ⟨f0, f1, f2, f3⟩ := (unhide RB).free4) | (have RB := hide ((Blk.at (w := w2) (cs := #[.int .i32 (nul 0), .int .i32 (nul 1), .int .i32 (nul 2), .int .i32 (nul 3)]) (t := 24) rfl).ext hx3); obtain ⟨r0, r1, r2, r3⟩ := (unhide RB).vec4; obtain ⟨f0, f1, f2, f3⟩ := (unhide RB).free4) | skip)) | (have hh : Ext w5 ((w5.alloc (.cells #[] 3)).alloc (.cells #[.int .i32 0, .int .i32 0, .int .i32 0, .int .i32 0] 24)).drew := (by with_reducible assumption); refine step_append_R rfl (.tmp 45) (.tmp 46) 45 rfl 3 i0 .i64 8 Try.underlying45 hi hz0 hz1 hz2 w5 ps (.slice ao ps.length cap) (unhide HR5) hm1 hm2 (w5.heap.size) rfl rfl (Nat.le_refl _) hh (heap_at2a w5 _ _) ?_; intro ao2 cap2 w2 hrow2 bx hB; have HRow2 := hide hrow2; have sz2 := bx.size; have RB : Hid (Blk w2 (w5.heap.size + 1) #[.int .i32 (nul 0), .int .i32 (nul 1), .int .i32 (nul 2), .int .i32 (nul 3)] 24) := hB _ _ _ (by omega) (heap_at2b w5 _ (.cells #[.int .i32 (nul 0), .int .i32 (nul 1), .int .i32 (nul 2), .int .i32 (nul 3)] 24)); clear hrow2 hB hh) | (have hh : Ext w5 ((w5.alloc (.cells #[.int .i32 0, .int .i32 0, .int .i32 0, .int .i32 0] 24)).alloc (.cells #[] 3)).drew := (by with_reducible assumption); refine step_append_R rfl (.tmp 45) (.tmp 46) 45 rfl 3 i0 .i64 8 Try.underlying45 hi hz0 hz1 hz2 w5 ps (.slice ao ps.length cap) (unhide HR5) hm1 hm2 (w5.heap.size + 1) rfl rfl (Nat.le_add_right _ 1) hh (heap_at2b w5 _ _) ?_; intro ao2 cap2 w2 hrow2 bx hB; have HRow2 := hide hrow2; have sz2 := bx.size; have RB : Hid (Blk w2 w5.heap.size #[.int .i32 (nul 0), .int .i32 (nul 1), .int .i32 (nul 2), .int .i32 (nul 3)] 24) := hB _ _ _ (by omega) (heap_at2a w5 (.cells #[.int .i32 (nul 0), .int .i32 (nul 1), .int .i32 (nul 2), .int .i32 (nul 3)] 24) _); clear hrow2 hB hh) | (have hh : Ext w5 (w5.alloc (.cells #[] 3)).drew := (by with_reducible assumption); refine step_append_R rfl (.tmp 45) (.tmp 46) 45 rfl 3 i0 .i64 8 Try.underlying45 hi hz0 hz1 hz2 w5 ps (.slice ao ps.length cap) (unhide HR5) hm1 hm2 (w5.heap.size) rfl rfl (Nat.le_refl _) hh (heap_at1 w5 _) ?_; intro ao2 cap2 w2 hrow2 bx hB; have HRow2 := hide hrow2; have sz2 := bx.size; clear hrow2 hB hh))
    all_goals go_wp2
    all_goals go_meet
    all_goals refine ⟨_, rfl, rfl, ?_, ?_⟩
    all_goals first | (with_reducible exact bx.alloc _) | (with_reducible exact ext_set4 bx (by omega)) | (with_reducible exact Blk.at rfl) | (with_reducible exact blk_set4 (unhide RB) _ _ _ _)
  case rest =>
  obtain ⟨r, rfl, rfl, hV, hx⟩ := hcut
  have V2 := hide hV
  have B2 := hide ((unhide B5).ext hx)
  have X2 := hide ((unhide X5).trans hx)
  clear hV hx B5 X5 p0 p1 p2 p3 p4 p5 p6 p7 HR5
  go_wp2_with fail
  refine (refRight_any ao cap ps true false _ ((unhide HR).ext (unhide X2)) ⟨fun h => (by cases h), fun h => absurd h.1 hg⟩).mono ?_
  rintro e w6 ⟨rfl, hx⟩
  have V6 := hide ((unhide V2).ext hx)
  have B6 := hide ((unhide B2).ext hx)
  have X6 := hide ((unhide X2).trans hx)
  clear hx V2 B2 X2
  obtain ⟨c0, c1, c2, c3⟩ := (unhide V6).vec4
  unfold nul at c0 c1 c2 c3
  go_wp2
  go_ret
  exact ⟨by simp, unhide X6⟩
end Go.Proofs.Ytlbcflfhbhpicaa
