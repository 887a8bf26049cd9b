/-
  The walk of VecPlaces: places each of which stands there once.
-/
import Derived.Test.YtlbcflfhbhpicaaLVPh
namespace Go.Proofs.Ytlbcflfhbhpicaa
open Go.ChangeShapes Go.WideShapes Go.ChangeAt Go.RowKit
set_option linter.unusedVariables false
set_option linter.unusedSimpArgs false

set_option maxHeartbeats 8000000 in
theorem places_good (a b : Nat → Int) (ao : Option Addr) (cap : Nat) (ps : List Int) (w : World) (hrow : Row .i64 w (.slice ao ps.length cap) ps) (hm : ps.length * 8 ≤ 140737488351232) (hg : Good ps) (hn : ¬ Dup ps) :
    Calls Try.prog 7 #[.agg #[.int .i32 (a 0), .int .i32 (a 1), .int .i32 (a 2), .int .i32 (a 3), .int .i32 (b 0), .int .i32 (b 1), .int .i32 (b 2), .int .i32 (b 3)], .slice ao ps.length cap] w fun e w' => e = .returned (.bool true) ∧ Ext w w' := by
  have hE := eqV
  have HR := hide hrow
  have HP : Hid (∀ ao cap W, Row .i64 W (.slice ao ps.length cap) ps → Calls Try.prog 23 #[.agg #[.int .i32 (a 0), .int .i32 (a 1), .int .i32 (a 2), .int .i32 (a 3)], .slice ao ps.length cap] W fun e w' => e = .returned (.tuple #[.agg #[.int .i32 (cut ps.length (fun i => a (pl ps i)) 0), .int .i32 (cut ps.length (fun i => a (pl ps i)) 1), .int .i32 (cut ps.length (fun i => a (pl ps i)) 2), .int .i32 (cut ps.length (fun i => a (pl ps i)) 3)], .int .i64 0]) ∧ Ext W w') := fun ao cap W h => pick_any a ao cap ps W h hg
  have HQ : Hid (∀ ao cap W, Row .i64 W (.slice ao ps.length cap) ps → Calls Try.prog 26 #[.agg #[.int .i32 (a 0), .int .i32 (a 1), .int .i32 (a 2), .int .i32 (a 3)], .agg #[.int .i32 (b 0), .int .i32 (b 1), .int .i32 (b 2), .int .i32 (b 3)], .slice ao ps.length cap] W fun e w' => e = .returned (.tuple #[.agg #[.int .i32 (layK a b ps ps.length 0), .int .i32 (layK a b ps ps.length 1), .int .i32 (layK a b ps ps.length 2), .int .i32 (layK a b ps ps.length 3)], .int .i64 0]) ∧ Ext W w') := fun ao cap W h => put_any a b ao cap ps W h hg hn
  have HK : Hid (∀ W, Row .i64 W (.slice ao ps.length cap) ps → Calls Try.prog 25 #[.agg #[.int .i32 (a 0), .int .i32 (a 1), .int .i32 (a 2), .int .i32 (a 3)], .slice ao ps.length cap] W fun e w' => e = .returned (.agg #[.int .i32 (cut ps.length (fun i => a (pl ps i)) 0), .int .i32 (cut ps.length (fun i => a (pl ps i)) 1), .int .i32 (cut ps.length (fun i => a (pl ps i)) 2), .int .i32 (cut ps.length (fun i => a (pl ps i)) 3)]) ∧ Ext W w') := fun W h => refPick_any a ao cap ps W h hg
  have HL : Hid (∀ W, Row .i64 W (.slice ao ps.length cap) ps → Calls Try.prog 27 #[.agg #[.int .i32 (a 0), .int .i32 (a 1), .int .i32 (a 2), .int .i32 (a 3)], .agg #[.int .i32 (b 0), .int .i32 (b 1), .int .i32 (b 2), .int .i32 (b 3)], .slice ao ps.length cap] W fun e w' => e = .returned (.agg #[.int .i32 (layK a b ps ps.length 0), .int .i32 (layK a b ps ps.length 1), .int .i32 (layK a b ps ps.length 2), .int .i32 (layK a b ps ps.length 3)]) ∧ Ext W w') := fun W h => refPut_any a b ao cap ps W h hg
  have HG := hide hg
  generalize hp : cut ps.length (fun i => a (pl ps i)) = p at *
  have HPE := hide hp
  clear hp
  generalize hq : layK a b ps ps.length = q at *
  have HQE := hide hq
  clear hq
  have hm1 : ps.length ≤ maxLen := by unfold maxLen; omega
  have hm2 : ps.length * 8 ≤ 140737488355328 := by omega
  obtain ⟨i0, hi, hz0, hz1, hz2⟩ := info_parts infoInt
  clear hrow
  go_enter Try.func7, Try.ntmps7
  go_wp2_with fail
  refine (wakes_any _).mono ?_
  rintro e w1 ⟨rfl, hx1⟩
  have B := hide ((Blk.at (cs := #[.int .i32 (a 0), .int .i32 (a 1), .int .i32 (a 2), .int .i32 (a 3), .int .i32 (b 0), .int .i32 (b 1), .int .i32 (b 2), .int .i32 (b 3)]) (t := 26) (rfl : w.heap.size = w.heap.size)).ext hx1)
  have X := hide (((Ext.refl w).alloc _).trans hx1)
  have HR1 := hide ((unhide HR).ext (unhide X))
  clear hx1
  obtain ⟨⟨p0, p1, p2, p3⟩, p4, p5, p6, p7⟩ := held_pair (unhide B)
  go_upto_region 3 with fail
  go_cut [5, 6] from 9 (fun s5 s6 wc => ∃ r, s5 = .pointer (some ⟨r, 0, none⟩) ∧ s6 = .int .i64 0 ∧ Blk wc r #[.int .i32 (p 0), .int .i32 (p 1), .int .i32 (p 2), .int .i32 (p 3)] 24 ∧ Ext w1 wc)
  case first =>
    go_region_held3 (fun w' => Ext w1 w')
      (first | with_reducible exact bx | with_reducible exact bx.alloc _ | with_reducible exact ext_set4 bx (by omega) | with_reducible exact (Ext.refl w1).drew | with_reducible exact ext_1 w1 _ | with_reducible exact ext_2 w1 _ _)
      (first | (go_at_call 23; refine (unhide HP ao2 cap2 _ (by first | with_reducible exact unhide HRow2 | exact (unhide HRow2).ext ((Ext.refl w2).alloc _))).mono ?_; rintro e w3 ⟨rfl, hx3⟩; have bx : Ext w1 w3 := (by first | with_reducible exact bx.trans hx3 | exact (bx.alloc _).trans hx3); (first | (have RB := hide ((unhide RB).ext hx3); obtain ⟨r0, r1, r2, r3⟩ := (unhide RB).vec4; obtain ⟨f0, f1, f2, f3⟩ := (unhide RB).free4) | (have RB := hide ((Blk.at (w := w2) (cs := #[.int .i32 (nul 0), .int .i32 (nul 1), .int .i32 (nul 2), .int .i32 (nul 3)]) (t := 24) rfl).ext hx3); obtain ⟨r0, r1, r2, r3⟩ := (unhide RB).vec4; obtain ⟨f0, f1, f2, f3⟩ := (unhide RB).free4) | skip)) | (have hh : Ext w1 ((w1.alloc (.cells #[] 3)).alloc (.cells #[.int .i32 0, .int .i32 0, .int .i32 0, .int .i32 0] 24)).drew := (by with_reducible assumption); refine step_append_R rfl (.tmp 14) (.tmp 15) 45 rfl 3 i0 .i64 8 Try.underlying45 hi hz0 hz1 hz2 w1 ps (.slice ao ps.length cap) (unhide HR1) hm1 hm2 (w1.heap.size) rfl rfl (Nat.le_refl _) hh (heap_at2a w1 _ _) ?_; intro ao2 cap2 w2 hrow2 bx hB; have HRow2 := hide hrow2; have sz2 := bx.size; have RB : Hid (Blk w2 (w1.heap.size + 1) #[.int .i32 (nul 0), .int .i32 (nul 1), .int .i32 (nul 2), .int .i32 (nul 3)] 24) := hB _ _ _ (by omega) (heap_at2b w1 _ (.cells #[.int .i32 (nul 0), .int .i32 (nul 1), .int .i32 (nul 2), .int .i32 (nul 3)] 24)); clear hrow2 hB hh) | (have hh : Ext w1 ((w1.alloc (.cells #[.int .i32 0, .int .i32 0, .int .i32 0, .int .i32 0] 24)).alloc (.cells #[] 3)).drew := (by with_reducible assumption); refine step_append_R rfl (.tmp 14) (.tmp 15) 45 rfl 3 i0 .i64 8 Try.underlying45 hi hz0 hz1 hz2 w1 ps (.slice ao ps.length cap) (unhide HR1) hm1 hm2 (w1.heap.size + 1) rfl rfl (Nat.le_add_right _ 1) hh (heap_at2b w1 _ _) ?_; intro ao2 cap2 w2 hrow2 bx hB; have HRow2 := hide hrow2; have sz2 := bx.size; have RB : Hid (Blk w2 w1.heap.size #[.int .i32 (nul 0), .int .i32 (nul 1), .int .i32 (nul 2), .int .i32 (nul 3)] 24) := hB _ _ _ (by omega) (heap_at2a w1 (.cells #[.int .i32 (nul 0), .int .i32 (nul 1), .int .i32 (nul 2), .int .i32 (nul 3)] 24) _); clear hrow2 hB hh) | (have hh : Ext w1 (w1.alloc (.cells #[] 3)).drew := (by with_reducible assumption); refine step_append_R rfl (.tmp 14) (.tmp 15) 45 rfl 3 i0 .i64 8 Try.underlying45 hi hz0 hz1 hz2 w1 ps (.slice ao ps.length cap) (unhide HR1) hm1 hm2 (w1.heap.size) rfl rfl (Nat.le_refl _) hh (heap_at1 w1 _) ?_; intro ao2 cap2 w2 hrow2 bx hB; have HRow2 := hide hrow2; have sz2 := bx.size; clear hrow2 hB hh))
    all_goals go_wp2
    all_goals go_meet
    all_goals refine ⟨_, rfl, rfl, ?_, ?_⟩
    all_goals first | (with_reducible exact bx.alloc _) | (with_reducible exact ext_set4 bx (by omega)) | (with_reducible exact Blk.at rfl) | (with_reducible exact blk_set4 (unhide RB) _ _ _ _)
  case rest =>
  obtain ⟨r, rfl, rfl, hV, hx⟩ := hcut
  have V2 := hide hV
  have B2 := hide ((unhide B).ext hx)
  have X2 := hide ((unhide X).trans hx)
  clear hV hx B X p0 p1 p2 p3 p4 p5 p6 p7 HR1
  go_wp2_with fail
  refine (refRight_any ao cap ps false true _ ((unhide HR).ext (unhide X2)) ⟨fun _ => ⟨hg, fun h => (by cases h)⟩, fun _ => rfl⟩).mono ?_
  rintro e w4 ⟨rfl, hx⟩
  have V4 := hide ((unhide V2).ext hx)
  have B4 := hide ((unhide B2).ext hx)
  have X4 := hide ((unhide X2).trans hx)
  clear hx V2 B2 X2
  obtain ⟨c0, c1, c2, c3⟩ := later_vec (unhide V4)
  obtain ⟨⟨p0, p1, p2, p3⟩, p4, p5, p6, p7⟩ := later_pair (unhide B4)
  have hne := Later.some w4
  have HR4 := hide ((unhide HR).ext (unhide X4))
  go_upto_region 7 with fail
  refine wp_region_later (by kernel_rfl) (by kernel_rfl) ?_
  repeat (go_big_quiet_step (first | (go_at_call 25; refine calls_later (unhide HK _ ((unhide HR4).ext (Later.ext _))))))
  refine wpQuiet_nil ?_
  rintro _ ⟨x, rfl⟩
  have B5 := hide ((unhide B4).ext x.ext)
  have X5 := hide ((unhide X4).trans x.ext)
  clear c0 c1 c2 c3 p0 p1 p2 p3 p4 p5 p6 p7 hne HR4 V4 B4 X4
  generalize x.w = w5 at *
  clear x
  have HR5 := hide ((unhide HR).ext (unhide X5))
  obtain ⟨⟨p0, p1, p2, p3⟩, p4, p5, p6, p7⟩ := held_pair (unhide B5)
  go_upto_region 9 with fail
  go_cut [7, 8] from 9 (fun s5 s6 wc => ∃ r, s5 = .pointer (some ⟨r, 0, none⟩) ∧ s6 = .int .i64 0 ∧ Blk wc r #[.int .i32 (q 0), .int .i32 (q 1), .int .i32 (q 2), .int .i32 (q 3)] 24 ∧ Ext w5 wc)
  case first =>
    go_region_held3 (fun w' => Ext w5 w')
      (first | with_reducible exact bx | with_reducible exact bx.alloc _ | with_reducible exact ext_set4 bx (by omega) | with_reducible exact (Ext.refl w5).drew | with_reducible exact ext_1 w5 _ | with_reducible exact ext_2 w5 _ _)
      (first | (go_at_call 26; refine (unhide HQ ao2 cap2 _ (by first | with_reducible exact unhide HRow2 | exact (unhide HRow2).ext ((Ext.refl w2).alloc _))).mono ?_; rintro e w3 ⟨rfl, hx3⟩; have bx : Ext w5 w3 := (by first | with_reducible exact bx.trans hx3 | exact (bx.alloc _).trans hx3); (first | (have RB := hide ((unhide RB).ext hx3); obtain ⟨r0, r1, r2, r3⟩ := (unhide RB).vec4; obtain ⟨f0, f1, f2, f3⟩ := (unhide RB).free4) | (have RB := hide ((Blk.at (w := w2) (cs := #[.int .i32 (nul 0), .int .i32 (nul 1), .int .i32 (nul 2), .int .i32 (nul 3)]) (t := 24) rfl).ext hx3); obtain ⟨r0, r1, r2, r3⟩ := (unhide RB).vec4; obtain ⟨f0, f1, f2, f3⟩ := (unhide RB).free4) | skip)) | (have hh : Ext w5 ((w5.alloc (.cells #[] 3)).alloc (.cells #[.int .i32 0, .int .i32 0, .int .i32 0, .int .i32 0] 24)).drew := (by with_reducible assumption); refine step_append_R rfl (.tmp 45) (.tmp 46) 45 rfl 3 i0 .i64 8 Try.underlying45 hi hz0 hz1 hz2 w5 ps (.slice ao ps.length cap) (unhide HR5) hm1 hm2 (w5.heap.size) rfl rfl (Nat.le_refl _) hh (heap_at2a w5 _ _) ?_; intro ao2 cap2 w2 hrow2 bx hB; have HRow2 := hide hrow2; have sz2 := bx.size; have RB : Hid (Blk w2 (w5.heap.size + 1) #[.int .i32 (nul 0), .int .i32 (nul 1), .int .i32 (nul 2), .int .i32 (nul 3)] 24) := hB _ _ _ (by omega) (heap_at2b w5 _ (.cells #[.int .i32 (nul 0), .int .i32 (nul 1), .int .i32 (nul 2), .int .i32 (nul 3)] 24)); clear hrow2 hB hh) | (have hh : Ext w5 ((w5.alloc (.cells #[.int .i32 0, .int .i32 0, .int .i32 0, .int .i32 0] 24)).alloc (.cells #[] 3)).drew := (by with_reducible assumption); refine step_append_R rfl (.tmp 45) (.tmp 46) 45 rfl 3 i0 .i64 8 Try.underlying45 hi hz0 hz1 hz2 w5 ps (.slice ao ps.length cap) (unhide HR5) hm1 hm2 (w5.heap.size + 1) rfl rfl (Nat.le_add_right _ 1) hh (heap_at2b w5 _ _) ?_; intro ao2 cap2 w2 hrow2 bx hB; have HRow2 := hide hrow2; have sz2 := bx.size; have RB : Hid (Blk w2 w5.heap.size #[.int .i32 (nul 0), .int .i32 (nul 1), .int .i32 (nul 2), .int .i32 (nul 3)] 24) := hB _ _ _ (by omega) (heap_at2a w5 (.cells #[.int .i32 (nul 0), .int .i32 (nul 1), .int .i32 (nul 2), .int .i32 (nul 3)] 24) _); clear hrow2 hB hh) | (have hh : Ext w5 (w5.alloc (.cells #[] 3)).drew := (by with_reducible assumption); refine step_append_R rfl (.tmp 45) (.tmp 46) 45 rfl 3 i0 .i64 8 Try.underlying45 hi hz0 hz1 hz2 w5 ps (.slice ao ps.length cap) (unhide HR5) hm1 hm2 (w5.heap.size) rfl rfl (Nat.le_refl _) hh (heap_at1 w5 _) ?_; intro ao2 cap2 w2 hrow2 bx hB; have HRow2 := hide hrow2; have sz2 := bx.size; clear hrow2 hB hh))
    all_goals go_wp2
    all_goals go_meet
    all_goals refine ⟨_, rfl, rfl, ?_, ?_⟩
    all_goals first | (with_reducible exact bx.alloc _) | (with_reducible exact ext_set4 bx (by omega)) | (with_reducible exact Blk.at rfl) | (with_reducible exact blk_set4 (unhide RB) _ _ _ _)
  case rest =>
  obtain ⟨r, rfl, rfl, hV, hx⟩ := hcut
  have V2 := hide hV
  have B2 := hide ((unhide B5).ext hx)
  have X2 := hide ((unhide X5).trans hx)
  clear hV hx B5 X5 p0 p1 p2 p3 p4 p5 p6 p7 HR5
  go_wp2_with fail
  refine (refRight_any ao cap ps true true _ ((unhide HR).ext (unhide X2)) ⟨fun _ => ⟨hg, fun _ => hn⟩, fun _ => rfl⟩).mono ?_
  rintro e w6 ⟨rfl, hx⟩
  have V6 := hide ((unhide V2).ext hx)
  have B6 := hide ((unhide B2).ext hx)
  have X6 := hide ((unhide X2).trans hx)
  clear hx V2 B2 X2
  obtain ⟨c0, c1, c2, c3⟩ := later_vec (unhide V6)
  obtain ⟨⟨p0, p1, p2, p3⟩, p4, p5, p6, p7⟩ := later_pair (unhide B6)
  have hne := Later.some w6
  have HR6 := hide ((unhide HR).ext (unhide X6))
  go_upto_region 12 with fail
  refine wp_region_later (by kernel_rfl) (by kernel_rfl) ?_
  repeat (go_big_quiet_step (first | (go_at_call 27; refine calls_later (unhide HL _ ((unhide HR6).ext (Later.ext _))))))
  refine wpQuiet_nil ?_
  rintro _ ⟨x, rfl⟩
  go_wp2
  go_ret
  exact ⟨by simp, (unhide X6).trans x.ext⟩
end Go.Proofs.Ytlbcflfhbhpicaa
