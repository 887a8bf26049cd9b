/-
  Codes: that the layer does anything (wakes).
-/
import Derived.Test.YtfoffnbkfnbglaaCX
import Derived.Deep.Cut
namespace Go.Proofs.Ytfoffnbkfnbglaa
open Go.RowKit
set_option linter.unusedVariables false
set_option linter.unusedSimpArgs false

theorem IR.block (w : World) (L : List (Nat → Int)) (hm : L.length ≤ 1000) (hne : L ≠ []) : IR (w.alloc (.cells (icells L).toArray 39)) (.slice (some ⟨w.heap.size, 0, none⟩) L.length L.length) L := by
  refine ⟨_, _, rfl, (fun h => by cases h), Nat.le_refl _, by unfold maxLen; omega, fun i hi => ⟨w.heap.size, 0, rfl, ?_⟩⟩
  intro j u hu
  have hj : j < 16 := by have := (List.getElem?_eq_some_iff.1 hu).1; simpa [insA] using this
  rw [Nat.zero_add]
  refine (Blk.new w _ _).cell ?_
  have := icells_get L i hi j hj
  rw [hu] at this
  simpa using this

theorem wOk : ∀ I ∈ wC.ins, OkI I := by
  intro I hI
  have hI' : I = wI1 ∨ I = wI2 := by simpa [wC] using hI
  rcases hI' with rfl | rfl
  · refine ⟨fun k hk => ?_, fun k hk => ?_, fun k hk => ?_⟩ <;> unfold wI1 <;> split <;> omega
  · refine ⟨fun k hk => ?_, fun k hk => ?_, fun k hk => ?_⟩ <;> unfold wI2 <;> (repeat' split) <;> omega
theorem bytL_byt (l : List Int) : Byt (bytL l) := by
  intro x hx
  unfold bytL at hx
  obtain ⟨y, _, h⟩ := List.mem_flatMap.1 hx
  exact low_byt y 4 x h
theorem wByt : Byt wB := by rw [← wB_eq]; exact bytL_byt _

set_option maxRecDepth 10000 in
set_option maxHeartbeats 4000000 in
theorem wakes_any (w : World) : Calls Try.prog 5 #[] w fun e w' => e = .returned (.bool true) ∧ Ext w w' := by
  obtain ⟨i16, hi16, hz16, hs16, hb16⟩ := info_all infoI
  have hIR : IR (w.alloc (.cells (icells wC.ins).toArray 39)) (.slice (some ⟨w.heap.size, 0, none⟩) 2 2) wC.ins := IR.block w wC.ins (by decide) (by decide)
  have HIR := hide hIR
  have HB : Hid (Blk ((w.alloc (.cells (icells wC.ins).toArray 39)).alloc (.cells #[.int .i64 (wC).stage, .slice (some ⟨w.heap.size, 0, none⟩) 2 2, .int .i64 (wC).regs, .int .i64 (wC).attr, .int .i64 (wC).unif, .int .i64 (wC).vary] 26)) (w.heap.size + 1) #[.int .i64 (wC).stage, .slice (some ⟨w.heap.size, 0, none⟩) 2 2, .int .i64 (wC).regs, .int .i64 (wC).attr, .int .i64 (wC).unif, .int .i64 (wC).vary] 26) := Blk.here (by simp)
  have HX : Hid (Ext w ((w.alloc (.cells (icells wC.ins).toArray 39)).alloc (.cells #[.int .i64 (wC).stage, .slice (some ⟨w.heap.size, 0, none⟩) 2 2, .int .i64 (wC).regs, .int .i64 (wC).attr, .int .i64 (wC).unif, .int .i64 (wC).vary] 26))) := ((Ext.refl w).alloc _).alloc _
  have HIX : Hid (IR ((w.alloc (.cells (icells wC.ins).toArray 39)).alloc (.cells #[.int .i64 (wC).stage, .slice (some ⟨w.heap.size, 0, none⟩) 2 2, .int .i64 (wC).regs, .int .i64 (wC).attr, .int .i64 (wC).unif, .int .i64 (wC).vary] 26)) (.slice (some ⟨w.heap.size, 0, none⟩) 2 2) wC.ins) := hIR.ext ((Ext.refl _).alloc _)
  clear hIR
  go_enter Try.func5, Try.ntmps5
  go_wp2_with (first
    | refine wpList_buildTo rfl 39 _ rfl (some 6) rfl (insA wI1) (by kernel_rfl) ?_
    | refine wpList_buildTo rfl 39 _ rfl (some 7) rfl (insA wI2) (by kernel_rfl) ?_
    | refine Go.wpList_buildSlice rfl 24 39 2 _ rfl (icells wC.ins).toArray i16 (.agg (insA zI)) Try.underlying24 hi16 hz16 (by rw [hs16]; decide) (by rw [hs16]; decide) (by rw [hs16]; kernel_rfl) ?_
    | refine wpList_buildTo rfl 26 _ rfl (some 9) rfl #[.int .i64 (wC).stage, .slice (some ⟨w.heap.size, 0, none⟩) 2 2, .int .i64 (wC).regs, .int .i64 (wC).attr, .int .i64 (wC).unif, .int .i64 (wC).vary] (by kernel_rfl) ?_
    | refine wpList_storeLast rfl 26 (.tmp 1) (.tmp 9) rfl _ (w.heap.size + 1) (by simp) rfl #[.int .i64 (wC).stage, .slice (some ⟨w.heap.size, 0, none⟩) 2 2, .int .i64 (wC).regs, .int .i64 (wC).attr, .int .i64 (wC).unif, .int .i64 (wC).vary] rfl 6 size6 rfl rfl (by simp [Value.oneCell']) ?_
    | refine wpList_load_row rfl 26 (.tmp 1) rfl (w.heap.size + 1) rfl 26 #[.int .i64 (wC).stage, .slice (some ⟨w.heap.size, 0, none⟩) 2 2, .int .i64 (wC).regs, .int .i64 (wC).attr, .int .i64 (wC).unif, .int .i64 (wC).vary] (0, 0) _ (unhide HB) Try.underlying26 rfl size6 ?_
    | (go_at_call 9999))
  generalize ((w.alloc (.cells (icells wC.ins).toArray 39)).alloc (.cells #[.int .i64 (wC).stage, .slice (some ⟨w.heap.size, 0, none⟩) 2 2, .int .i64 (wC).regs, .int .i64 (wC).attr, .int .i64 (wC).unif, .int .i64 (wC).vary] 26)) = w1 at HB HX HIX ⊢
  clear HIR
  refine (encode_ok wC _ w1 (unhide HIX) wOk wMay).mono ?_
  rintro e w2 ⟨ao2, cap2, rfl, hown2, hx2⟩
  rw [wB_eq] at hown2 ⊢
  have hlB : wB.length = 156 := by kernel_rfl
  rw [hlB] at hown2 ⊢
  have HR2 := hide hown2.row
  have H2 := hide (And.intro ((unhide HB).ext hx2) (And.intro ((unhide HIX).ext hx2) ((unhide HX).trans hx2)))
  clear hown2 hx2 HB HIX HX hlB
  go_wp2_with (go_at_call 9999)
  refine (decode_any _ wB w2 (unhide HR2) wByt).mono ?_
  rintro e w3 ⟨hx3, hd⟩
  rcases hd with ⟨_, ao3, cap3, rfl, hio3⟩ | ⟨hf, _⟩
  case inr => rw [wDec] at hf; cases hf
  have hn2 : (codA wB).ins.length = 2 := by kernel_rfl
  rw [hn2] at hio3 ⊢
  have H3 := hide (And.intro ((unhide H2).1.ext hx3) (And.intro ((unhide H2).2.1.ext hx3) (And.intro hio3.ir ((unhide H2).2.2.trans hx3))))
  clear hio3 hx3 H2 hn2 HR2
  have HB4 : Hid (Blk (w3.alloc (.cells #[.int .i64 ((codA wB)).stage, .slice ao3 2 cap3, .int .i64 ((codA wB)).regs, .int .i64 ((codA wB)).attr, .int .i64 ((codA wB)).unif, .int .i64 ((codA wB)).vary] 26)) w3.heap.size #[.int .i64 ((codA wB)).stage, .slice ao3 2 cap3, .int .i64 ((codA wB)).regs, .int .i64 ((codA wB)).attr, .int .i64 ((codA wB)).unif, .int .i64 ((codA wB)).vary] 26) := Blk.new _ _ _
  have H4 := hide (show Blk (w3.alloc (.cells #[.int .i64 ((codA wB)).stage, .slice ao3 2 cap3, .int .i64 ((codA wB)).regs, .int .i64 ((codA wB)).attr, .int .i64 ((codA wB)).unif, .int .i64 ((codA wB)).vary] 26)) (w.heap.size + 1) #[.int .i64 (wC).stage, .slice (some ⟨w.heap.size, 0, none⟩) 2 2, .int .i64 (wC).regs, .int .i64 (wC).attr, .int .i64 (wC).unif, .int .i64 (wC).vary] 26 ∧ IR (w3.alloc (.cells #[.int .i64 ((codA wB)).stage, .slice ao3 2 cap3, .int .i64 ((codA wB)).regs, .int .i64 ((codA wB)).attr, .int .i64 ((codA wB)).unif, .int .i64 ((codA wB)).vary] 26)) (.slice (some ⟨w.heap.size, 0, none⟩) 2 2) wC.ins ∧ IR (w3.alloc (.cells #[.int .i64 ((codA wB)).stage, .slice ao3 2 cap3, .int .i64 ((codA wB)).regs, .int .i64 ((codA wB)).attr, .int .i64 ((codA wB)).unif, .int .i64 ((codA wB)).vary] 26)) (.slice ao3 2 cap3) (codA wB).ins ∧ Ext w (w3.alloc (.cells #[.int .i64 ((codA wB)).stage, .slice ao3 2 cap3, .int .i64 ((codA wB)).regs, .int .i64 ((codA wB)).attr, .int .i64 ((codA wB)).unif, .int .i64 ((codA wB)).vary] 26)) from ⟨(unhide H3).1.alloc _, (unhide H3).2.1.ext ((Ext.refl _).alloc _), (unhide H3).2.2.1.ext ((Ext.refl _).alloc _), (unhide H3).2.2.2.alloc _⟩)
  go_upto_region 4 with (refine wpList_storeLast rfl 26 (.tmp 4) (.tmp 18) rfl _ w3.heap.size rfl rfl #[.int .i64 ((codA wB)).stage, .slice ao3 2 cap3, .int .i64 ((codA wB)).regs, .int .i64 ((codA wB)).attr, .int .i64 ((codA wB)).unif, .int .i64 ((codA wB)).vary] rfl 6 size6 rfl rfl (by simp [Value.oneCell']) ?_)
  clear H3
  generalize hB4 : w3.heap.size = B4 at *
  generalize w3.alloc (.cells #[.int .i64 ((codA wB)).stage, .slice ao3 2 cap3, .int .i64 ((codA wB)).regs, .int .i64 ((codA wB)).attr, .int .i64 ((codA wB)).unif, .int .i64 ((codA wB)).vary] 26) = w4 at HB4 H4 ⊢
  clear hB4
  go_wp2_with (first
    | refine wpList_load_row rfl 26 (.tmp 1) rfl (w.heap.size + 1) rfl 26 #[.int .i64 (wC).stage, .slice (some ⟨w.heap.size, 0, none⟩) 2 2, .int .i64 (wC).regs, .int .i64 (wC).attr, .int .i64 (wC).unif, .int .i64 (wC).vary] (0, 0) _ (unhide H4).1 Try.underlying26 rfl size6 ?_
    | (go_at_call 9999))
  refine (check_any wC _ w4 (unhide H4).2.1).mono ?_
  rintro e w5 ⟨rfl, hx5⟩
  rw [wMay]
  have H5 := hide (show Blk w5 (w.heap.size + 1) #[.int .i64 (wC).stage, .slice (some ⟨w.heap.size, 0, none⟩) 2 2, .int .i64 (wC).regs, .int .i64 (wC).attr, .int .i64 (wC).unif, .int .i64 (wC).vary] 26 ∧ IR w5 (.slice (some ⟨w.heap.size, 0, none⟩) 2 2) wC.ins ∧ IR w5 (.slice ao3 2 cap3) (codA wB).ins ∧ Ext w w5 ∧ Blk w5 B4 #[.int .i64 ((codA wB)).stage, .slice ao3 2 cap3, .int .i64 ((codA wB)).regs, .int .i64 ((codA wB)).attr, .int .i64 ((codA wB)).unif, .int .i64 ((codA wB)).vary] 26 from ⟨(unhide H4).1.ext hx5, (unhide H4).2.1.ext hx5, (unhide H4).2.2.1.ext hx5, (unhide H4).2.2.2.trans hx5, (unhide HB4).ext hx5⟩)
  clear hx5 H4 HB4
  have hch : chkI true = 0 := rfl
  rw [hch]
  obtain ⟨a0, a1, a2, a3, a4, a5⟩ := cellC (unhide H5).1
  obtain ⟨b0, b1, b2, b3, b4, b5⟩ := cellC (unhide H5).2.2.2.2
  go_wp2_with (go_at_call 9999)
  refine (same_any wC (codA wB) _ _ w5 (unhide H5).2.1 (unhide H5).2.2.1).mono ?_
  rintro e w6 ⟨rfl, hx6⟩
  rw [wSame]
  have HX6 := hide ((unhide H5).2.2.2.1.trans hx6)
  clear hx6 H5 a0 a1 a2 a3 a4 a5 b0 b1 b2 b3 b4 b5
  go_wp2_with (go_at_call 9999)
  refine (check_any zC _ w6 ⟨none, 0, rfl, fun _ => rfl, Nat.le_refl _, Nat.zero_le _, fun i hi => by simp [zC] at hi⟩).mono ?_
  rintro e w7 ⟨rfl, hx7⟩
  rw [wZero]
  have HX7 := hide ((unhide HX6).trans hx7)
  clear hx7 HX6
  have hch2 : chkI false = 260 := rfl
  rw [hch2]
  go_wp2_with (go_at_call 14; refine (args_any 17 1 _).mono ?_; rintro e w8 ⟨rfl, rfl⟩)
  go_ret
  exact ⟨rfl, unhide HX7⟩
end Go.Proofs.Ytfoffnbkfnbglaa
