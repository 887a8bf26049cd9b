/-
  The statement CodeRegs: whatever an instruction of a code that may be touches is one of its registers, and jumps go forward. No conditions.
-/
import Derived.Test.YtclkpahihfeacaaCFx
import Derived.Test.YtclkpahihfeacaaFrC
namespace Go.Proofs.Ytclkpahihfeacaa
open Go.ChangeShapes Go.WideShapes Go.ChangeAt Go.RowKit
set_option linter.unusedVariables false
set_option linter.unusedSimpArgs false

set_option maxRecDepth 10000 in
set_option maxHeartbeats 8000000 in
theorem codeRegs_walk (C : Cod) (v : Value) (w : World) (h : IR w v C.ins) : Calls Try.prog 8 #[.agg #[.int .i64 (C).stage, v, .int .i64 (C).regs, .int .i64 (C).attr, .int .i64 (C).unif, .int .i64 (C).vary]] w fun e w' => e = .returned (.bool true) ∧ Ext w w' := by
  have HV := hide h
  obtain ⟨ao, ca, rfl, hn0, hlc, hcm, hat⟩ := h
  clear hat hn0
  have HB := hide (Blk.new w #[.int .i64 (C).stage, .slice ao C.ins.length ca, .int .i64 (C).regs, .int .i64 (C).attr, .int .i64 (C).unif, .int .i64 (C).vary] 26)
  have HX := hide ((Ext.refl w).alloc (.cells #[.int .i64 (C).stage, .slice ao C.ins.length ca, .int .i64 (C).regs, .int .i64 (C).attr, .int .i64 (C).unif, .int .i64 (C).vary] 26))
  go_enter Try.func8, Try.ntmps8
  go_wp2_with (go_at_call 9999)
  refine (wakes_any _).mono ?_
  rintro e w1 ⟨rfl, hx1⟩
  have HB1 := hide ((unhide HB).ext hx1)
  have HX1 := hide ((unhide HX).trans hx1)
  clear hx1 HB HX
  go_wp2_with (first
    | refine wpList_load_row rfl 26 (.tmp 1) rfl w.heap.size rfl 26 #[.int .i64 (C).stage, .slice ao C.ins.length ca, .int .i64 (C).regs, .int .i64 (C).attr, .int .i64 (C).unif, .int .i64 (C).vary] (0, 0) _ (unhide HB1) Try.underlying26 rfl size6 ?_
    | (go_at_call 9999))
  refine (few_any C _ w1 ((unhide HV).ext (unhide HX1))).mono ?_
  rintro e w2 ⟨am, cm, rfl, hio, hx2⟩
  have hir := few_ir hio
  obtain ⟨F, hF⟩ : ∃ F, fewC C = F := ⟨_, rfl⟩
  rw [hF] at hir ⊢
  have HB2 := hide ((unhide HB1).ext hx2)
  have HX2 := hide ((unhide HX1).trans hx2)
  have hsz := (unhide HX1).size
  have HI2 := hide (show IR (w2.setRow w.heap.size #[.int .i64 (F).stage, .slice am F.ins.length cm, .int .i64 (F).regs, .int .i64 (F).attr, .int .i64 (F).unif, .int .i64 (F).vary]) (.slice am F.ins.length cm) F.ins from by
    have h9 := (hio.kept9 (grownBy_row w2 w.heap.size #[.int .i64 (F).stage, .slice am F.ins.length cm, .int .i64 (F).regs, .int .i64 (F).attr, .int .i64 (F).unif, .int .i64 (F).vary]) (hio.neB (unhide HB2) (by decide)))
    have h8 := few_ir h9
    rw [hF] at h8
    exact h8)
  have HB3 : Hid (Blk (w2.setRow w.heap.size #[.int .i64 (F).stage, .slice am F.ins.length cm, .int .i64 (F).regs, .int .i64 (F).attr, .int .i64 (F).unif, .int .i64 (F).vary]) w.heap.size #[.int .i64 (F).stage, .slice am F.ins.length cm, .int .i64 (F).regs, .int .i64 (F).attr, .int .i64 (F).unif, .int .i64 (F).vary] 26) := (unhide HB2).rowC
  have HX3 : Hid (Ext w (w2.setRow w.heap.size #[.int .i64 (F).stage, .slice am F.ins.length cm, .int .i64 (F).regs, .int .i64 (F).attr, .int .i64 (F).unif, .int .i64 (F).vary])) := extRow (unhide HX2) (Nat.le_refl _)
  clear hio hx2 hF HB1 HX1 hsz hir HV
  go_upto_region 4 with (refine wpList_store_row rfl 26 (.tmp 1) (.tmp 12) rfl w.heap.size #[.int .i64 (F).stage, .slice am F.ins.length cm, .int .i64 (F).regs, .int .i64 (F).attr, .int .i64 (F).unif, .int .i64 (F).vary] rfl rfl 26 _ (unhide HB2) size6 rfl (by simp [Value.oneCell']) ?_)
  generalize w2.setRow w.heap.size #[.int .i64 (F).stage, .slice am F.ins.length cm, .int .i64 (F).regs, .int .i64 (F).attr, .int .i64 (F).unif, .int .i64 (F).vary] = w3 at HI2 HB3 HX3 ⊢
  clear HB2 HX2
  go_wp2_with (first
    | refine wpList_load_row rfl 26 (.tmp 1) rfl w.heap.size rfl 26 #[.int .i64 (F).stage, .slice am F.ins.length cm, .int .i64 (F).regs, .int .i64 (F).attr, .int .i64 (F).unif, .int .i64 (F).vary] (0, 0) _ (unhide HB3) Try.underlying26 rfl size6 ?_
    | (go_at_call 9999))
  refine (check_any F _ w3 (unhide HI2)).mono ?_
  rintro e w4 ⟨rfl, hx4⟩
  have HB4 := hide ((unhide HB3).ext hx4)
  have HI4 := hide ((unhide HI2).ext hx4)
  have HX4 := hide ((unhide HX3).trans hx4)
  clear hx4 HB3 HI2 HX3
  cases hm : mayP F
  case false =>
    have hch : chkI false = 260 := rfl
    rw [hch]
    go_wp2
    go_ret
    exact ⟨rfl, unhide HX4⟩
  case true =>
  have hch : chkI true = 0 := rfl
  rw [hch]
  obtain ⟨hr1, hr2, hr3⟩ := may_regs hm
  have HM := hide (fun k hk => may_ins hm k hk)
  clear hm hch
  obtain ⟨z0, z1, z2, z3, z4, z5⟩ := cellC (unhide HB4)
  go_wp2
  clear z0 z1 z2 z3 z4 z5
  go_loopw [19] (fun iv wr => ∃ k : Nat, k ≤ F.ins.length ∧ iv = .int .i64 (k : Int) ∧ Blk wr w.heap.size #[.int .i64 (F).stage, .slice am F.ins.length cm, .int .i64 (F).regs, .int .i64 (F).attr, .int .i64 (F).unif, .int .i64 (F).vary] 26 ∧ IR wr (.slice am F.ins.length cm) F.ins ∧ Ext w wr) (fun iv _ => F.ins.length - (intOf iv).toNat)
  case atStart => exact ⟨0, Nat.zero_le _, rfl, unhide HB4, unhide HI4, unhide HX4⟩
  case round =>
    clear HB4 HI4 HX4
    obtain ⟨k, hk, rfl, hb, hir, hx⟩ := hrel
    have D := hide (And.intro hb (And.intro hir hx))
    clear hb hir hx
    by_cases hlt : k < F.ins.length
    · have hkn : (k : Int) < (F.ins.length : Int) := by omega
      obtain ⟨_, _, e1, _, _, _, hat⟩ := (unhide D).2.1
      have e1' := (Value.slice.inj e1).1
      subst e1'
      obtain ⟨b, off, rfl, hrg⟩ := hat k hlt
      have HRG := hide hrg
      obtain ⟨hA, hBw, hJ⟩ := unhide HM k hlt
      have HA := hide hA
      have HBW := hide hBw
      have HJ := hide hJ
      clear hrg hat e1 hA hBw hJ
      generalize F.ins[k] = I at *
      go_wp2_with (first
        | (refine wpList_load_mid rfl 42 (.tmp 22) rfl b (off + k * 16) rfl (insA I).toList _ (unhide HRG) Try.underlying42 rfl size16 ?_; rw [Array.toArray_toList])
        | refine wpList_storeLast rfl 42 (.tmp 4) (.tmp 23) rfl _ wr.heap.size rfl rfl (insA I) rfl 16 size16 rfl rfl (insA_one I) ?_
        | refine wpList_load_row rfl 42 (.tmp 4) rfl wr.heap.size rfl 42 (insA I) (0, 0) _ (heap_alloc_last wr _) Try.underlying42 rfl size16 ?_
        | (go_at_call 9999))
      refine (reads_any I _).mono ?_
      rintro e w5 ⟨ao5, cap5, rfl, hown5, hx5⟩
      have hx5' : Ext wr w5 := ((Ext.refl wr).alloc _).trans hx5
      have H5 := hide (show Blk w5 w.heap.size #[.int .i64 (F).stage, .slice (some ⟨b, off, none⟩) F.ins.length cm, .int .i64 (F).regs, .int .i64 (F).attr, .int .i64 (F).unif, .int .i64 (F).vary] 26 ∧ IR w5 (.slice (some ⟨b, off, none⟩) F.ins.length cm) F.ins ∧ Ext w w5 ∧ Blk w5 wr.heap.size (insA I) 42 ∧ Row .i64 w5 (.slice ao5 (readsP I).length cap5) (readsP I) from ⟨(unhide D).1.ext hx5', (unhide D).2.1.ext hx5', (unhide D).2.2.trans hx5', (Blk.new wr _ _).ext hx5, hown5.row⟩)
      have hrl : (readsP I).length ≤ 9223372036854775807 := by
        obtain ⟨_, _, _, _, h9, h10⟩ := hown5.row.shape
        unfold maxLen at h10
        omega
      clear hown5 hx5 hx5' D HRG
      generalize hB4 : wr.heap.size = B4 at *
      clear hB4
      generalize readsP I = xs at *
      obtain ⟨z0, z1, z2, z3, z4, z5⟩ := cellC (unhide H5).1
      go_wp2
      go_loopw [27] (fun iv wq => ∃ j : Nat, j ≤ xs.length ∧ iv = .int .i64 (j : Int) ∧ wq = w5) (fun iv _ => xs.length - (intOf iv).toNat)
      case atStart => exact ⟨0, Nat.zero_le _, rfl, rfl⟩
      case round =>
        obtain ⟨j, hj, rfl, rfl⟩ := hrel
        by_cases hjt : j < xs.length
        · obtain ⟨b2, off2, ea, hc⟩ := (unhide H5).2.2.2.2.at j hjt
          subst ea
          have c1 := hc j hjt
          obtain ⟨r0, r1⟩ := unhide HA xs[j] (List.getElem_mem hjt)
          generalize xs[j] = x at *
          clear hc
          have d0 : ¬ x < 0 := by omega
          have d1 : ¬ F.regs ≤ x := by omega
          go_wp2
          go_roundw
          case rel => exact ⟨j + 1, by omega, by go_num, by first | rfl | trivial⟩
          case measure => simp [intOf]; omega
        · obtain rfl : j = xs.length := by omega
          obtain ⟨i0, i1, i2, i3, i4, i5, i6, i7⟩ := cellJ (unhide H5).2.2.2.1
          clear z0 z1 z2 z3 z4 z5 i0 i1 i2 i3 i4 i5 i6 i7
          go_wp2_with (first
            | refine wpList_load_row rfl 42 (.tmp 4) rfl B4 rfl 42 (insA I) (0, 0) _ (unhide H5).2.2.2.1 Try.underlying42 rfl size16 ?_
            | (go_at_call 9999))
          refine (writes_any I _).mono ?_
          rintro e w6 ⟨rfl, hx6⟩
          have H6 := hide (show Blk w6 w.heap.size #[.int .i64 (F).stage, .slice (some ⟨b, off, none⟩) F.ins.length cm, .int .i64 (F).regs, .int .i64 (F).attr, .int .i64 (F).unif, .int .i64 (F).vary] 26 ∧ IR w6 (.slice (some ⟨b, off, none⟩) F.ins.length cm) F.ins ∧ Ext w w6 from ⟨(unhide H5).1.ext hx6, (unhide H5).2.1.ext hx6, (unhide H5).2.2.1.trans hx6⟩)
          obtain ⟨i0, i1, i2, i3, i4, i5, i6, i7⟩ := cellJ ((unhide H5).2.2.2.1.ext hx6)
          obtain ⟨z0, z1, z2, z3, z4, z5⟩ := cellC (unhide H6).1
          clear hx6 H5 HA
          generalize hwb : wrB (I 0) = wb at *
          clear hwb
          generalize writI I = wi at *
          generalize I 5 = a5 at *
          generalize I 0 = o at *
          rcases (by omega : o = 10 ∨ o = 11 ∨ (¬ o = 10 ∧ ¬ o = 11)) with rfl | rfl | ⟨n10, n11⟩
          · obtain ⟨j0, j1⟩ := unhide HJ (.inl rfl)
            have q0 : ¬ a5 ≤ (k : Int) := by omega
            have q1 : ¬ (F.ins.length : Int) < a5 := by omega
            cases wb
            · go_wp2
              go_roundw
              case rel => exact ⟨k + 1, by omega, by go_num, unhide H6⟩
              case measure => simp [intOf]; omega
            · obtain ⟨u0, u1⟩ := unhide HBW rfl
              have q2 : ¬ wi < 0 := by omega
              have q3 : ¬ F.regs ≤ wi := by omega
              go_wp2
              go_roundw
              case rel => exact ⟨k + 1, by omega, by go_num, unhide H6⟩
              case measure => simp [intOf]; omega
          · obtain ⟨j0, j1⟩ := unhide HJ (.inr rfl)
            have q0 : ¬ a5 ≤ (k : Int) := by omega
            have q1 : ¬ (F.ins.length : Int) < a5 := by omega
            cases wb
            · go_wp2
              go_roundw
              case rel => exact ⟨k + 1, by omega, by go_num, unhide H6⟩
              case measure => simp [intOf]; omega
            · obtain ⟨u0, u1⟩ := unhide HBW rfl
              have q2 : ¬ wi < 0 := by omega
              have q3 : ¬ F.regs ≤ wi := by omega
              go_wp2
              go_roundw
              case rel => exact ⟨k + 1, by omega, by go_num, unhide H6⟩
              case measure => simp [intOf]; omega
          · have p0 : (o == 10) = false := beq_eq_false_iff_ne.2 n10
            have p1 : (o == 11) = false := beq_eq_false_iff_ne.2 n11
            cases wb
            · go_wp2
              go_roundw
              case rel => exact ⟨k + 1, by omega, by go_num, unhide H6⟩
              case measure => simp [intOf]; omega
            · obtain ⟨u0, u1⟩ := unhide HBW rfl
              have q2 : ¬ wi < 0 := by omega
              have q3 : ¬ F.regs ≤ wi := by omega
              go_wp2
              go_roundw
              case rel => exact ⟨k + 1, by omega, by go_num, unhide H6⟩
              case measure => simp [intOf]; omega
    · obtain rfl : k = F.ins.length := by omega
      obtain ⟨z0, z1, z2, z3, z4, z5⟩ := cellC (unhide D).1
      have q0 : (F.ins.length : Int) ≤ 4096 := by omega
      go_wp2
      go_ret
      exact ⟨rfl, (unhide D).2.2⟩

set_option maxRecDepth 100000 in
theorem regs16_owes (H : Type) (enc : TypeId × Value → H) (W : World) (base : Nat) (args : Array Value) (ds : List (DataW H)) (p : List MemPlace) : Owes H enc Try.prog 8 Try.f8 Rows.codeRegsSpec W base args ds p := by
  intro hval hA hsz
  rw [Try.params8] at hA hval hsz
  obtain ⟨v0, vs0, d0, ds0, p0, q0, hargs, rfl, rfl, h0, r0⟩ := trodAll_cons hA
  obtain ⟨rfl, rfl, rfl⟩ := trodAll_nil r0
  obtain rfl : args = #[v0] := by cases args; simp_all
  obtain ⟨C, u, rfl, hC, hok⟩ := open_codA (hval 0 26 v0 rfl rfl) h0
  exact ⟨⟨rfl, rfl, rfl⟩, codeRegs_walk C u W hC⟩

set_option maxRecDepth 100000 in
theorem regs16_lifted (os : Os) (started : os.Started) (H : Type) (enc : TypeId × Value → H) :
    ReturnsInHanded {} Try.checked os 8 .any (Rows.codeRegsSpec.pre6 enc Try.prog Try.f8 [] false) (Rows.codeRegsSpec.post enc Try.prog Try.f8 false true false false) :=
  lift_law (C := Try.checked) own laidOut started (by kernel_rfl) Try.func8 (T := 4) rfl Try.underlying4 rfl (by kernel_rfl)
    (ChangeSpec.witness6 (enc := enc) (C := Try.checked) false ⟨#[], #[.agg #[.int .i64 0, .slice none 0 0, .int .i64 0, .int .i64 0, .int .i64 0, .int .i64 0]], []⟩ 8 (by kernel_rfl) (by kernel_rfl) (by kernel_rfl) (by kernel_rfl)) (regs16_owes H enc)

theorem codeRegs_holds : Rows.CodeRegsSaid :=
  OpenClaim.holds_of_wide 8 Try.f8 rfl rfl rfl rfl rfl rfl rfl ⟨rfl, rfl, rfl, rfl, rfl⟩ rfl rfl rfl rfl rfl (by kernel_rfl) Try.func8 (by kernel_rfl)
    (of_decide_eq_true (by kernel_rfl)) (by unfold Func.isWrapper; rw [if_neg (of_decide_eq_false (by kernel_rfl))]; exact ⟨rfl, rfl⟩)
    (fun os started H enc _ => regs16_lifted os started H enc)
#print axioms codeRegs_holds
end Go.Proofs.Ytclkpahihfeacaa
