/-
  Codes: a code in memory of its own; the document's Same.
-/
import Derived.Test.YtfoffnbkfnbglaaCFx
namespace Go.Proofs.Ytfoffnbkfnbglaa
open Go.RowKit
set_option linter.unusedVariables false
set_option linter.unusedSimpArgs false

section
variable {w : World} {ops : Array Oper} {rest : List Oper} {o : Oper} {a : Act} {Q : Exit → Act → World → Prop}
theorem wpList_build_none (hgd : o.guard = none) (ho : o.op = .buildSlice 24 0 #[]) (base : Nat) (hb : base ≤ w.heap.size)
    (h : ∀ w', OI w' base (.slice (some ⟨w.heap.size, 0, none⟩) 0 0) [] → w' = w.alloc (.cells #[] 39) → wpList Try.prog ops Q rest (a.put o.dst (.slice (some ⟨w.heap.size, 0, none⟩) 0 0)) w') : wpList Try.prog ops Q (o :: rest) a w := by
  refine wpList_plain hgd fun K hK => ?_
  obtain ⟨i0, hi, hz0, hz1, hz2⟩ := info_all infoI
  unfold Oper.wp
  simp [execOp, ho, Instr.buildSlice, run_underlying, run_sizeOf, Try.underlying24, hi, hz1, Instr.fill, newRow, newObj, Result.andThen]
  rw [show (Array.map (fun x => (default : Value)) (Array.range 0)) = #[] from by simp]
  refine hK _ _ (h (w.alloc (.cells #[] 39)) ?_ rfl)
  exact ⟨rfl, .inr ⟨w.heap.size, 0, #[], rfl, hb, heap_alloc_last w _, Nat.le_refl _, Nat.zero_le _, rfl, rfl⟩⟩
theorem wpList_append_inss (hgd : o.guard = none) (s x : Operand) (ho : o.op = .call { callee := .builtin .append, args := #[s, x], argTypes := #[24, 24] }) (base : Nat) (v : Value) (L M : List (Nat → Int)) (hs : a.eval s = v)
    (hown : OI w base v L) (ao : Option Addr) (c : Nat) (hx : a.eval x = .slice ao M.length c) (hrow : IR w (.slice ao M.length c) M) (hL : L.length + M.length ≤ 1000000) (hbase : base ≤ w.heap.size)
    (h : ∀ v' w', OI w' base v' (L ++ M) → w.grownBy w' v.ownBlock → wpList Try.prog ops Q rest (a.put o.dst v') w') : wpList Try.prog ops Q (o :: rest) a w :=
  wpList_plain hgd fun K hK => wp_append_inss s x ho base v L M hs hown ao c hx hrow hL hbase fun v' w' h1 h2 => hK _ _ (h v' w' h1 h2)
end

set_option maxRecDepth 10000 in
set_option maxHeartbeats 4000000 in
theorem copied_any (C : Cod) (v : Value) (w : World) (h : IR w v C.ins) (hl : C.ins.length ≤ 4097) : Calls Try.prog 25 #[.agg #[.int .i64 (C).stage, v, .int .i64 (C).regs, .int .i64 (C).attr, .int .i64 (C).unif, .int .i64 (C).vary]] w fun e w' => ∃ am cm, e = .returned (.agg #[.int .i64 (C).stage, .slice am C.ins.length cm, .int .i64 (C).regs, .int .i64 (C).attr, .int .i64 (C).unif, .int .i64 (C).vary]) ∧ IR w' (.slice am C.ins.length cm) C.ins ∧ Ext w w' := by
  have HV := hide h
  obtain ⟨ao, ca, rfl, hn0, hlc, hcm, hat⟩ := h
  clear hat hn0
  have HX0 : Hid (Ext w ((w.alloc (.cells #[.int .i64 (C).stage, .slice ao C.ins.length ca, .int .i64 (C).regs, .int .i64 (C).attr, .int .i64 (C).unif, .int .i64 (C).vary] 26)).alloc (.cells #[.int .i64 0, .slice none 0 0, .int .i64 0, .int .i64 0, .int .i64 0, .int .i64 0] 26))) := ((Ext.refl w).alloc _).alloc _
  have HB0 : Hid (Blk ((w.alloc (.cells #[.int .i64 (C).stage, .slice ao C.ins.length ca, .int .i64 (C).regs, .int .i64 (C).attr, .int .i64 (C).unif, .int .i64 (C).vary] 26)).alloc (.cells #[.int .i64 0, .slice none 0 0, .int .i64 0, .int .i64 0, .int .i64 0, .int .i64 0] 26)) w.heap.size #[.int .i64 (C).stage, .slice ao C.ins.length ca, .int .i64 (C).regs, .int .i64 (C).attr, .int .i64 (C).unif, .int .i64 (C).vary] 26) := (Blk.new w _ _).alloc _
  have HR0 : Hid (Blk ((w.alloc (.cells #[.int .i64 (C).stage, .slice ao C.ins.length ca, .int .i64 (C).regs, .int .i64 (C).attr, .int .i64 (C).unif, .int .i64 (C).vary] 26)).alloc (.cells #[.int .i64 0, .slice none 0 0, .int .i64 0, .int .i64 0, .int .i64 0, .int .i64 0] 26)) (w.heap.size + 1) #[.int .i64 0, .slice none 0 0, .int .i64 0, .int .i64 0, .int .i64 0, .int .i64 0] 26) := Blk.here (by simp)
  go_enter Try.func25, Try.ntmps25
  go_upto_region 1 with fail
  generalize ((w.alloc (.cells #[.int .i64 (C).stage, .slice ao C.ins.length ca, .int .i64 (C).regs, .int .i64 (C).attr, .int .i64 (C).unif, .int .i64 (C).vary] 26)).alloc (.cells #[.int .i64 0, .slice none 0 0, .int .i64 0, .int .i64 0, .int .i64 0, .int .i64 0] 26)) = w0 at HX0 HB0 HR0 ⊢
  go_wp2_with (refine wpList_build_none rfl rfl w.heap.size (unhide HX0).size ?_)
  intro w1 hio e1
  have HX1 : Hid (Ext w w1) := by rw [Hid, e1]; exact (unhide HX0).alloc _
  have HB1 : Hid (Blk w1 w.heap.size #[.int .i64 (C).stage, .slice ao C.ins.length ca, .int .i64 (C).regs, .int .i64 (C).attr, .int .i64 (C).unif, .int .i64 (C).vary] 26) := by rw [Hid, e1]; exact (unhide HB0).alloc _
  have HR1 : Hid (Blk w1 (w.heap.size + 1) #[.int .i64 0, .slice none 0 0, .int .i64 0, .int .i64 0, .int .i64 0, .int .i64 0] 26) := by rw [Hid, e1]; exact (unhide HR0).alloc _
  have HIO := hide hio
  generalize w0.heap.size = g0 at *
  clear e1 hio HX0 HB0 HR0
  obtain ⟨z0, z1, z2, z3, z4, z5⟩ := cellC (unhide HB1)
  go_wp2_with (refine wpList_append_inss rfl (.tmp 3) (.tmp 5) rfl w.heap.size _ [] C.ins rfl (unhide HIO) ao ca rfl ((unhide HV).ext (unhide HX1)) (by simp; omega) (unhide HX1).size ?_)
  intro v6 w2 hm2 hg
  try rw [List.nil_append] at hm2
  have hxx : Ext w w2 := (unhide HX1).grown hg (unhide HX1).size (fun k e => ((unhide HIO).lt k e).1)
  have HB2 := hide ((unhide HB1).grownO hg ((unhide HIO).neB (unhide HB1) (by decide)))
  have HR2 := hide ((unhide HR1).grownO hg ((unhide HIO).neB (unhide HR1) (by decide)))
  obtain ⟨am, cm, e6, _⟩ := hm2.shape
  subst e6
  have HM := hide hm2
  have HX2 := hide hxx
  clear hm2 hg hxx HIO HB1 HR1 HX1 z0 z1 z2 z3 z4 z5
  have HB3 := hide ((unhide HB2).set 1 (.slice am C.ins.length cm))
  have HR3 := hide ((unhide HR2).other (r := w.heap.size) 1 (.slice am C.ins.length cm) (by omega))
  have HM3 := hide ((unhide HM).kept9 (grownBy_set w2 w.heap.size 1 (.slice am C.ins.length cm)) ((unhide HM).neB (unhide HB2) (by decide)))
  have HX3 := hide (extSet (i := 1) (v := .slice am C.ins.length cm) (unhide HX2) (Nat.le_refl _))
  have c1 := (cellC (unhide HB2)).2.1
  have f1 := (unhide HB2).free 1
  go_upto_region 2 with fail
  generalize w2.setCell _ _ = w3 at HB3 HR3 HM3 HX3 ⊢
  clear HB2 HR2 HM HX2 c1 f1
  have HB4 : Hid (Blk w3 w.heap.size #[.int .i64 (C).stage, .slice am C.ins.length cm, .int .i64 (C).regs, .int .i64 (C).attr, .int .i64 (C).unif, .int .i64 (C).vary] 26) := unhide HB3
  clear HB3
  go_wp2_with (first
    | refine wpList_load_row rfl 26 (.tmp 1) rfl w.heap.size rfl 26 #[.int .i64 (C).stage, .slice am C.ins.length cm, .int .i64 (C).regs, .int .i64 (C).attr, .int .i64 (C).unif, .int .i64 (C).vary] (0, 0) _ (unhide HB4) Try.underlying26 rfl size6 ?_
    | refine wpList_store_row rfl 26 (.tmp 2) (.tmp 8) rfl (w.heap.size + 1) #[.int .i64 (C).stage, .slice am C.ins.length cm, .int .i64 (C).regs, .int .i64 (C).attr, .int .i64 (C).unif, .int .i64 (C).vary] rfl rfl 26 _ (unhide HR3) size6 rfl (by simp [Value.oneCell']) ?_)
  refine bodyPost_ret (v := .agg #[.int .i64 (C).stage, .slice am C.ins.length cm, .int .i64 (C).regs, .int .i64 (C).attr, .int .i64 (C).unif, .int .i64 (C).vary]) (results_cell_row Try.results25 _ _ (w.heap.size + 1) 26 _ (0, 0) _ rfl ((unhide HR3).rowC) Try.underlying26 rfl size6) rfl ?_
  exact ⟨am, cm, rfl, ((unhide HM3).kept9 (grownBy_row _ _ _) ((unhide HM3).neB (unhide HR3) (by decide))).ir, extRow (unhide HX3) (by omega)⟩

set_option maxRecDepth 10000 in
set_option maxHeartbeats 8000000 in
theorem refSame_any (C D : Cod) (v u : Value) (w : World) (hA : IR w v C.ins) (hB : IR w u D.ins) : Calls Try.prog 9 #[.agg #[.int .i64 (C).stage, v, .int .i64 (C).regs, .int .i64 (C).attr, .int .i64 (C).unif, .int .i64 (C).vary], .agg #[.int .i64 (D).stage, u, .int .i64 (D).regs, .int .i64 (D).attr, .int .i64 (D).unif, .int .i64 (D).vary]] w fun e w' => e = .returned (.bool (sameC C D)) ∧ Ext w w' := by
  have HA := hide hA
  have HB := hide hB
  obtain ⟨ao, ca, rfl, _, ha1, ha2, _⟩ := hA
  obtain ⟨bo, cb, rfl, _, hb1, hb2, _⟩ := hB
  unfold maxLen at ha2 hb2
  have E := hide (sameC_hd C D)
  have HX : Hid (Ext w ((w.alloc (.cells #[.int .i64 (C).stage, .slice ao C.ins.length ca, .int .i64 (C).regs, .int .i64 (C).attr, .int .i64 (C).unif, .int .i64 (C).vary] 26)).alloc (.cells #[.int .i64 (D).stage, .slice bo D.ins.length cb, .int .i64 (D).regs, .int .i64 (D).attr, .int .i64 (D).unif, .int .i64 (D).vary] 26))) := ((Ext.refl w).alloc _).alloc _
  have HCA : Hid (Blk ((w.alloc (.cells #[.int .i64 (C).stage, .slice ao C.ins.length ca, .int .i64 (C).regs, .int .i64 (C).attr, .int .i64 (C).unif, .int .i64 (C).vary] 26)).alloc (.cells #[.int .i64 (D).stage, .slice bo D.ins.length cb, .int .i64 (D).regs, .int .i64 (D).attr, .int .i64 (D).unif, .int .i64 (D).vary] 26)) w.heap.size #[.int .i64 (C).stage, .slice ao C.ins.length ca, .int .i64 (C).regs, .int .i64 (C).attr, .int .i64 (C).unif, .int .i64 (C).vary] 26) := (Blk.new w _ _).alloc _
  have HCB : Hid (Blk ((w.alloc (.cells #[.int .i64 (C).stage, .slice ao C.ins.length ca, .int .i64 (C).regs, .int .i64 (C).attr, .int .i64 (C).unif, .int .i64 (C).vary] 26)).alloc (.cells #[.int .i64 (D).stage, .slice bo D.ins.length cb, .int .i64 (D).regs, .int .i64 (D).attr, .int .i64 (D).unif, .int .i64 (D).vary] 26)) (w.heap.size + 1) #[.int .i64 (D).stage, .slice bo D.ins.length cb, .int .i64 (D).regs, .int .i64 (D).attr, .int .i64 (D).unif, .int .i64 (D).vary] 26) := Blk.here (by simp)
  have E2 : Hid (sameL C.ins D.ins = (decide (C.ins.length = D.ins.length) && sameTo C.ins D.ins C.ins.length)) := rfl
  generalize sameC C D = z at *
  generalize sameL C.ins D.ins = sl at *
  go_enter Try.func9, Try.ntmps9
  go_upto_region 1 with fail
  generalize ((w.alloc (.cells #[.int .i64 (C).stage, .slice ao C.ins.length ca, .int .i64 (C).regs, .int .i64 (C).attr, .int .i64 (C).unif, .int .i64 (C).vary] 26)).alloc (.cells #[.int .i64 (D).stage, .slice bo D.ins.length cb, .int .i64 (D).regs, .int .i64 (D).attr, .int .i64 (D).unif, .int .i64 (D).vary] 26)) = w2 at HCA HCB HX ⊢
  obtain ⟨p0, p1, p2, p3, p4, p5⟩ := cellC (unhide HCA)
  obtain ⟨q0, q1, q2, q3, q4, q5⟩ := cellC (unhide HCB)
  by_cases d0 : C.stage = D.stage
  case neg =>
    have EQ : Hid (z = false) := by rw [Hid, unhide E]; simp [d0]
    have b0 : (C.stage != D.stage) = true := by simp; exact d0
    clear E E2 d0
    go_wp2
    go_ret
    rw [unhide EQ]
    exact ⟨rfl, unhide HX⟩
  case pos =>
  have b0 : (C.stage != D.stage) = false := by simp [d0]
  by_cases d1 : C.regs = D.regs
  case neg =>
    have EQ : Hid (z = false) := by rw [Hid, unhide E]; simp [d1]
    have b1 : (C.regs != D.regs) = true := by simp; exact d1
    clear E E2 d1
    go_wp2
    go_ret
    rw [unhide EQ]
    exact ⟨rfl, unhide HX⟩
  case pos =>
  have b1 : (C.regs != D.regs) = false := by simp [d1]
  by_cases d2 : C.attr = D.attr
  case neg =>
    have EQ : Hid (z = false) := by rw [Hid, unhide E]; simp [d2]
    have b2 : (C.attr != D.attr) = true := by simp; exact d2
    clear E E2 d2
    go_wp2
    go_ret
    rw [unhide EQ]
    exact ⟨rfl, unhide HX⟩
  case pos =>
  have b2 : (C.attr != D.attr) = false := by simp [d2]
  by_cases d3 : C.unif = D.unif
  case neg =>
    have EQ : Hid (z = false) := by rw [Hid, unhide E]; simp [d3]
    have b3 : (C.unif != D.unif) = true := by simp; exact d3
    clear E E2 d3
    go_wp2
    go_ret
    rw [unhide EQ]
    exact ⟨rfl, unhide HX⟩
  case pos =>
  have b3 : (C.unif != D.unif) = false := by simp [d3]
  by_cases d4 : C.vary = D.vary
  case neg =>
    have EQ : Hid (z = false) := by rw [Hid, unhide E]; simp [d4]
    have b4 : (C.vary != D.vary) = true := by simp; exact d4
    clear E E2 d4
    go_wp2
    go_ret
    rw [unhide EQ]
    exact ⟨rfl, unhide HX⟩
  case pos =>
  have b4 : (C.vary != D.vary) = false := by simp [d4]
  by_cases d5 : (C.ins.length : Int) = (D.ins.length : Int)
  case neg =>
    have EQ : Hid (z = false) := by rw [Hid, unhide E]; simp [d5]
    have b5 : ((C.ins.length : Int) != (D.ins.length : Int)) = true := by simp; exact d5
    clear E E2 d5
    go_wp2
    go_ret
    rw [unhide EQ]
    exact ⟨rfl, unhide HX⟩
  case pos =>
  have b5 : ((C.ins.length : Int) != (D.ins.length : Int)) = false := by simp [d5]
  have el : C.ins.length = D.ins.length := by omega
  have EQ : Hid (z = sameTo C.ins D.ins C.ins.length) := by
    rw [Hid, unhide E, unhide E2, decide_eq_true el]
    simp [d0, d1, d2, d3, d4, d5]
  have HL := hide el
  rw [← el] at HB hb1 HCB q1 b5
  clear E E2 d0 d1 d2 d3 d4 d5 el
  go_upto_region 4 with fail
  generalize C.ins = A at *
  generalize D.ins = B at *
  clear p0 p2 p3 p4 p5 q0 q2 q3 q4 q5 b0 b1 b2 b3 b4 b5
  go_loopw [51] (fun iv wr => ∃ k : Nat, k ≤ A.length ∧ iv = .int .i64 (k : Int) ∧ Ext w2 wr ∧ sameTo A B k = true) (fun iv _ => A.length - (intOf iv).toNat)
  case atStart => exact ⟨0, Nat.zero_le _, rfl, Ext.refl _, rfl⟩
  case round =>
    obtain ⟨k, hk, rfl, hx, hs⟩ := hrel
    have X := hide ((unhide HX).trans hx)
    have XW := hide hx
    have HCA := hide ((unhide HCA).ext hx)
    have HCB := hide ((unhide HCB).ext hx)
    have HS0 := hide hs
    clear hx hs p1 q1
    by_cases hlt : k < A.length
    · have hlB : k < B.length := by rw [← unhide HL]; exact hlt
      have hkn : (k : Int) < (A.length : Int) := by omega
      obtain ⟨_, _, e1, _, _, _, hat⟩ := (unhide HA).ext (unhide X)
      have e1' := (Value.slice.inj e1).1
      subst e1'
      obtain ⟨ba, oa, rfl, hra⟩ := hat k hlt
      obtain ⟨_, _, e2, _, _, _, hbt⟩ := (unhide HB).ext (unhide X)
      have e2' := (Value.slice.inj e2).1
      subst e2'
      obtain ⟨bb, ob, rfl, hrb⟩ := hbt k hlB
      have HRA := hide hra
      have HRB := hide hrb
      have HSU := hide (sameTo_succ A B k)
      have HSF := hide (fun h => sameTo_false (A := A) (B := B) (k := k) (n := A.length) h hlt)
      rw [show A.getD k zI = A[k] by simp [hlt], show B.getD k zI = B[k] by simp [hlB]] at HSU HSF
      have HEQ := hide (fun wx => eqI A[k] B[k] wx)
      generalize A[k] = x at *
      generalize B[k] = y at *
      clear hra hrb hat hbt e1 e2
      generalize hsm : sameI x y = sm at *
      clear hsm
      cases sm
      case false =>
        have EF := hide (unhide HSF (by first | rfl | trivial))
        go_upto_region 6 with fail
        refine wp_region_noPanic ?_
        refine wp_region_held_drew (S := fun wx => Ext wr wx) (by kernel_rfl) ((Ext.refl _).drew) (fun HS => ?_)
        refine wpAnyH_take (i := 0) (oi := { dst := some 54, op := Op.fieldAddr _ (Operand.tmp 2) 1, type := _, pos := _, after := _, guard := none }) (v := .pointer (some ⟨w.heap.size, 1, none⟩)) rfl (by kernel_rfl) (by kernel_rfl) (by kernel_rfl) (fun _ _ _ h => h) (Or.inl ⟨by rfl, fun _ _ => rfl⟩) HS ?_
        simp only [Act.put, List.setIfInBounds_toArray, List.set_cons_zero, List.set_cons_succ]
        refine wpAnyH_take (i := 1) (oi := { dst := some 55, op := Op.load _ (Operand.tmp 54), type := _, pos := _, after := _, guard := none }) (v := .slice (some ⟨ba, oa, none⟩) A.length ca) rfl (by kernel_rfl) (by kernel_rfl) (by kernel_rfl) (fun _ _ _ h => h) (Or.inl ⟨by rfl, fun wx hx => by have h1 := (cellC ((unhide HCA).ext hx)).2.1; go_simp⟩) HS ?_
        simp only [Act.put, List.setIfInBounds_toArray, List.set_cons_zero, List.set_cons_succ]
        refine wpAnyH_take (i := 2) (oi := { dst := some 56, op := Op.move (Operand.tmp 5), type := _, pos := _, after := _, guard := none }) (v := .int .i64 (k : Int)) rfl (by kernel_rfl) (by kernel_rfl) (by kernel_rfl) (fun _ _ _ h => h) (Or.inl ⟨by rfl, fun _ _ => rfl⟩) HS ?_
        simp only [Act.put, List.setIfInBounds_toArray, List.set_cons_zero, List.set_cons_succ]
        refine wpAnyH_take (i := 3) (oi := { dst := some 57, op := Op.indexAddr _ (Operand.tmp 55) (Operand.tmp 56), type := _, pos := _, after := _, guard := none }) (v := .pointer (some ⟨ba, oa + k * 16, none⟩)) rfl (by kernel_rfl) (by kernel_rfl) (by kernel_rfl) (fun _ _ _ h => h) (Or.inl ⟨by rfl, fun wx hx => by go_simp⟩) HS ?_
        simp only [Act.put, List.setIfInBounds_toArray, List.set_cons_zero, List.set_cons_succ]
        refine wpAnyH_take (i := 4) (oi := { dst := some 58, op := Op.load _ (Operand.tmp 57), type := _, pos := _, after := _, guard := none }) (v := .agg (insA x)) rfl (by kernel_rfl) (by kernel_rfl) (by kernel_rfl) (fun _ _ _ h => h) (yieldsIf_load_mid (by rfl) 39 (.tmp 57) rfl ba (oa + k * 16) rfl (insA x).toList _ (fun wx hx => rng_ext (unhide HRA) hx) Try.underlying39 rfl size16) HS ?_
        simp only [Act.put, List.setIfInBounds_toArray, List.set_cons_zero, List.set_cons_succ]
        refine wpAnyH_take (i := 5) (oi := { dst := some 59, op := Op.fieldAddr _ (Operand.tmp 3) 1, type := _, pos := _, after := _, guard := none }) (v := .pointer (some ⟨w.heap.size + 1, 1, none⟩)) rfl (by kernel_rfl) (by kernel_rfl) (by kernel_rfl) (fun _ _ _ h => h) (Or.inl ⟨by rfl, fun _ _ => rfl⟩) HS ?_
        simp only [Act.put, List.setIfInBounds_toArray, List.set_cons_zero, List.set_cons_succ]
        refine wpAnyH_take (i := 6) (oi := { dst := some 60, op := Op.load _ (Operand.tmp 59), type := _, pos := _, after := _, guard := none }) (v := .slice (some ⟨bb, ob, none⟩) A.length cb) rfl (by kernel_rfl) (by kernel_rfl) (by kernel_rfl) (fun _ _ _ h => h) (Or.inl ⟨by rfl, fun wx hx => by have h1 := (cellC ((unhide HCB).ext hx)).2.1; go_simp⟩) HS ?_
        simp only [Act.put, List.setIfInBounds_toArray, List.set_cons_zero, List.set_cons_succ]
        refine wpAnyH_take (i := 7) (oi := { dst := some 61, op := Op.move (Operand.tmp 5), type := _, pos := _, after := _, guard := none }) (v := .int .i64 (k : Int)) rfl (by kernel_rfl) (by kernel_rfl) (by kernel_rfl) (fun _ _ _ h => h) (Or.inl ⟨by rfl, fun _ _ => rfl⟩) HS ?_
        simp only [Act.put, List.setIfInBounds_toArray, List.set_cons_zero, List.set_cons_succ]
        refine wpAnyH_take (i := 8) (oi := { dst := some 62, op := Op.indexAddr _ (Operand.tmp 60) (Operand.tmp 61), type := _, pos := _, after := _, guard := none }) (v := .pointer (some ⟨bb, ob + k * 16, none⟩)) rfl (by kernel_rfl) (by kernel_rfl) (by kernel_rfl) (fun _ _ _ h => h) (Or.inl ⟨by rfl, fun wx hx => by go_simp⟩) HS ?_
        simp only [Act.put, List.setIfInBounds_toArray, List.set_cons_zero, List.set_cons_succ]
        refine wpAnyH_take (i := 9) (oi := { dst := some 63, op := Op.load _ (Operand.tmp 62), type := _, pos := _, after := _, guard := none }) (v := .agg (insA y)) rfl (by kernel_rfl) (by kernel_rfl) (by kernel_rfl) (fun _ _ _ h => h) (yieldsIf_load_mid (by rfl) 39 (.tmp 62) rfl bb (ob + k * 16) rfl (insA y).toList _ (fun wx hx => rng_ext (unhide HRB) hx) Try.underlying39 rfl size16) HS ?_
        simp only [Act.put, List.setIfInBounds_toArray, List.set_cons_zero, List.set_cons_succ]
        refine wpAnyH_take (i := 10) (oi := { dst := some 64, op := Op.binOp BinOp.neq _ (Operand.tmp 58) (Operand.tmp 63) _, type := _, pos := _, after := _, guard := none }) (v := .bool true) rfl (by kernel_rfl) (by kernel_rfl) (by kernel_rfl) (fun _ _ _ h => h) (Or.inl ⟨by rfl, fun wx hx => exec_ne _ _ (.tmp 58) (.tmp 63) _ _ _ _ false rfl rfl rfl grdI (unhide HEQ wx)⟩) HS ?_
        simp only [Act.put, List.setIfInBounds_toArray, List.set_cons_zero, List.set_cons_succ]
        refine wpAnyH_done (by kernel_rfl) ?_ _
        refine NoPanic.normal ?_
        have HX9 := hide ((unhide X).trans HS)
        go_wp2
        go_ret
        rw [unhide EQ, unhide EF]
        exact ⟨rfl, unhide HX9⟩
      case true =>
        have ET : Hid (sameTo A B (k + 1) = true) := by rw [Hid, unhide HSU, unhide HS0]; rfl
        go_upto_region 6 with fail
        refine wp_region_noPanic ?_
        refine wp_region_held_drew (S := fun wx => Ext wr wx) (by kernel_rfl) ((Ext.refl _).drew) (fun HS => ?_)
        refine wpAnyH_take (i := 0) (oi := { dst := some 54, op := Op.fieldAddr _ (Operand.tmp 2) 1, type := _, pos := _, after := _, guard := none }) (v := .pointer (some ⟨w.heap.size, 1, none⟩)) rfl (by kernel_rfl) (by kernel_rfl) (by kernel_rfl) (fun _ _ _ h => h) (Or.inl ⟨by rfl, fun _ _ => rfl⟩) HS ?_
        simp only [Act.put, List.setIfInBounds_toArray, List.set_cons_zero, List.set_cons_succ]
        refine wpAnyH_take (i := 1) (oi := { dst := some 55, op := Op.load _ (Operand.tmp 54), type := _, pos := _, after := _, guard := none }) (v := .slice (some ⟨ba, oa, none⟩) A.length ca) rfl (by kernel_rfl) (by kernel_rfl) (by kernel_rfl) (fun _ _ _ h => h) (Or.inl ⟨by rfl, fun wx hx => by have h1 := (cellC ((unhide HCA).ext hx)).2.1; go_simp⟩) HS ?_
        simp only [Act.put, List.setIfInBounds_toArray, List.set_cons_zero, List.set_cons_succ]
        refine wpAnyH_take (i := 2) (oi := { dst := some 56, op := Op.move (Operand.tmp 5), type := _, pos := _, after := _, guard := none }) (v := .int .i64 (k : Int)) rfl (by kernel_rfl) (by kernel_rfl) (by kernel_rfl) (fun _ _ _ h => h) (Or.inl ⟨by rfl, fun _ _ => rfl⟩) HS ?_
        simp only [Act.put, List.setIfInBounds_toArray, List.set_cons_zero, List.set_cons_succ]
        refine wpAnyH_take (i := 3) (oi := { dst := some 57, op := Op.indexAddr _ (Operand.tmp 55) (Operand.tmp 56), type := _, pos := _, after := _, guard := none }) (v := .pointer (some ⟨ba, oa + k * 16, none⟩)) rfl (by kernel_rfl) (by kernel_rfl) (by kernel_rfl) (fun _ _ _ h => h) (Or.inl ⟨by rfl, fun wx hx => by go_simp⟩) HS ?_
        simp only [Act.put, List.setIfInBounds_toArray, List.set_cons_zero, List.set_cons_succ]
        refine wpAnyH_take (i := 4) (oi := { dst := some 58, op := Op.load _ (Operand.tmp 57), type := _, pos := _, after := _, guard := none }) (v := .agg (insA x)) rfl (by kernel_rfl) (by kernel_rfl) (by kernel_rfl) (fun _ _ _ h => h) (yieldsIf_load_mid (by rfl) 39 (.tmp 57) rfl ba (oa + k * 16) rfl (insA x).toList _ (fun wx hx => rng_ext (unhide HRA) hx) Try.underlying39 rfl size16) HS ?_
        simp only [Act.put, List.setIfInBounds_toArray, List.set_cons_zero, List.set_cons_succ]
        refine wpAnyH_take (i := 5) (oi := { dst := some 59, op := Op.fieldAddr _ (Operand.tmp 3) 1, type := _, pos := _, after := _, guard := none }) (v := .pointer (some ⟨w.heap.size + 1, 1, none⟩)) rfl (by kernel_rfl) (by kernel_rfl) (by kernel_rfl) (fun _ _ _ h => h) (Or.inl ⟨by rfl, fun _ _ => rfl⟩) HS ?_
        simp only [Act.put, List.setIfInBounds_toArray, List.set_cons_zero, List.set_cons_succ]
        refine wpAnyH_take (i := 6) (oi := { dst := some 60, op := Op.load _ (Operand.tmp 59), type := _, pos := _, after := _, guard := none }) (v := .slice (some ⟨bb, ob, none⟩) A.length cb) rfl (by kernel_rfl) (by kernel_rfl) (by kernel_rfl) (fun _ _ _ h => h) (Or.inl ⟨by rfl, fun wx hx => by have h1 := (cellC ((unhide HCB).ext hx)).2.1; go_simp⟩) HS ?_
        simp only [Act.put, List.setIfInBounds_toArray, List.set_cons_zero, List.set_cons_succ]
        refine wpAnyH_take (i := 7) (oi := { dst := some 61, op := Op.move (Operand.tmp 5), type := _, pos := _, after := _, guard := none }) (v := .int .i64 (k : Int)) rfl (by kernel_rfl) (by kernel_rfl) (by kernel_rfl) (fun _ _ _ h => h) (Or.inl ⟨by rfl, fun _ _ => rfl⟩) HS ?_
        simp only [Act.put, List.setIfInBounds_toArray, List.set_cons_zero, List.set_cons_succ]
        refine wpAnyH_take (i := 8) (oi := { dst := some 62, op := Op.indexAddr _ (Operand.tmp 60) (Operand.tmp 61), type := _, pos := _, after := _, guard := none }) (v := .pointer (some ⟨bb, ob + k * 16, none⟩)) rfl (by kernel_rfl) (by kernel_rfl) (by kernel_rfl) (fun _ _ _ h => h) (Or.inl ⟨by rfl, fun wx hx => by go_simp⟩) HS ?_
        simp only [Act.put, List.setIfInBounds_toArray, List.set_cons_zero, List.set_cons_succ]
        refine wpAnyH_take (i := 9) (oi := { dst := some 63, op := Op.load _ (Operand.tmp 62), type := _, pos := _, after := _, guard := none }) (v := .agg (insA y)) rfl (by kernel_rfl) (by kernel_rfl) (by kernel_rfl) (fun _ _ _ h => h) (yieldsIf_load_mid (by rfl) 39 (.tmp 62) rfl bb (ob + k * 16) rfl (insA y).toList _ (fun wx hx => rng_ext (unhide HRB) hx) Try.underlying39 rfl size16) HS ?_
        simp only [Act.put, List.setIfInBounds_toArray, List.set_cons_zero, List.set_cons_succ]
        refine wpAnyH_take (i := 10) (oi := { dst := some 64, op := Op.binOp BinOp.neq _ (Operand.tmp 58) (Operand.tmp 63) _, type := _, pos := _, after := _, guard := none }) (v := .bool false) rfl (by kernel_rfl) (by kernel_rfl) (by kernel_rfl) (fun _ _ _ h => h) (Or.inl ⟨by rfl, fun wx hx => exec_ne _ _ (.tmp 58) (.tmp 63) _ _ _ _ true rfl rfl rfl grdI (unhide HEQ wx)⟩) HS ?_
        simp only [Act.put, List.setIfInBounds_toArray, List.set_cons_zero, List.set_cons_succ]
        refine wpAnyH_done (by kernel_rfl) ?_ _
        refine NoPanic.normal ?_
        have HX9 := hide ((unhide XW).trans HS)
        go_wp2
        go_roundw
        case rel => exact ⟨k + 1, by omega, by go_num, unhide HX9, unhide ET⟩
        case measure => simp [intOf]; omega
    · obtain rfl : k = A.length := by omega
      go_wp2
      go_ret
      rw [unhide EQ, unhide HS0]
      exact ⟨rfl, unhide X⟩
end Go.Proofs.Ytfoffnbkfnbglaa
