/- Several texts in one. -/
import Derived.Test.YtfoffnbkfnbglaaCFw
import Derived.Test.YtfoffnbkfnbglaaCW
import Derived.Test.YtfoffnbkfnbglaaCRp
import Derived.Test.YtfoffnbkfnbglaaCRo
import Derived.Test.YtfoffnbkfnbglaaCRm
import Derived.Deep.Cut
import Derived.Deep.DeepCutAuto
import Derived.Shelf.Bytes.SlSmallAll
import Derived.Deep.Upon
/-
  Codes that may be: what follows for their instructions.
-/
namespace Go.Proofs.Ytfoffnbkfnbglaa
open Go.RowKit
set_option linter.unusedVariables false
set_option linter.unusedSimpArgs false

theorem inB_iff (x n : Int) : inB x n = true ↔ 0 ≤ x ∧ x < n := by simp [inB]
theorem may_regs {C : Cod} (h : mayP C = true) : C.ins.length ≤ 4096 ∧ 0 ≤ C.regs ∧ C.regs ≤ 1024 := by
  simp only [mayP, Bool.and_eq_true, decide_eq_true_eq] at h
  refine ⟨h.2.1, ?_⟩
  have h1 := h.1
  unfold headB at h1
  split at h1
  · simp only [Bool.and_eq_true, inB_iff] at h1
    omega
  · split at h1
    · simp only [Bool.and_eq_true, inB_iff] at h1
      omega
    · cases h1
theorem may_ins {C : Cod} (h : mayP C = true) (k : Nat) (hk : k < C.ins.length) : (∀ r ∈ readsP C.ins[k], 0 ≤ r ∧ r < C.regs) ∧ (wrB (C.ins[k] 0) = true → 0 ≤ writI C.ins[k] ∧ writI C.ins[k] < C.regs) ∧ ((C.ins[k] 0 = 10 ∨ C.ins[k] 0 = 11) → (k : Int) < C.ins[k] 5 ∧ C.ins[k] 5 ≤ (C.ins.length : Int)) := by
  simp only [mayP, Bool.and_eq_true] at h
  have h2 := mayTo_at h.2.2 hk
  rw [show C.ins.getD k zI = C.ins[k] by simp [hk]] at h2
  generalize C.ins[k] = I at *
  simp only [insB, Bool.and_eq_true] at h2
  obtain ⟨h3, h4, h5⟩ := h2
  simp only [rgsB, Bool.and_eq_true, List.all_eq_true, Bool.or_eq_true] at h4
  refine ⟨fun r hr => (inB_iff _ _).1 (h4.1 r hr), fun hw => ?_, fun hj => ?_⟩
  · rcases h4.2 with h6 | h6
    · rw [hw] at h6; cases h6
    · exact (inB_iff _ _).1 h6
  · unfold fldB at h5
    rw [if_neg (by omega), if_neg (by omega), if_neg (by omega), if_neg (by omega), if_neg (by omega), if_neg (by omega), if_neg (by omega), if_pos hj] at h5
    simpa using h5
/-- What few answers, as a code that is read. -/
theorem few_ir {w w' : World} {C : Cod} {am : Option Addr} {cm : Nat} (h : OI w' w.heap.size (.slice am ((fewC C).ins.length + 1) cm) ((fewC C).ins ++ [i77])) : IR w' (.slice am (fewC C).ins.length cm) (fewC C).ins := by
  have h1 := h.ir
  have h2 := h1.take (fewC C).ins.length (by simp)
  simpa using h2
theorem few_ok {C : Cod} (h : ∀ I ∈ C.ins, OkI I) : ∀ I ∈ (fewC C).ins, OkI I := fun I hI => h I (List.mem_of_mem_take hI)
end Go.Proofs.Ytfoffnbkfnbglaa

/-
  Codes: a code in memory of its own; the document's Same.
-/
namespace Go.Proofs.Ytfoffnbkfnbglaa
open Go.RowKit
set_option linter.unusedVariables false
set_option linter.unusedSimpArgs false

section
variable {w : World} {ops : Array Oper} {rest : List Oper} {o : Oper} {a : Act} {Q : Exit → Act → World → Prop}
theorem wpList_build_none (hgd : o.guard = none) (ho : o.op = .buildSlice 24 0 #[]) (base : Nat) (hb : base ≤ w.heap.size)
    (h : ∀ w', OI w' base (.slice (some ⟨w.heap.size, 0, none⟩) 0 0) [] → w' = w.alloc (.cells #[] 39) → wpList Try.prog ops Q rest (a.put o.dst (.slice (some ⟨w.heap.size, 0, none⟩) 0 0)) w') : wpList Try.prog ops Q (o :: rest) a w := by
  refine wpList_plain hgd fun K hK => ?_
  obtain ⟨i0, hi, hz0, hz1, hz2⟩ := info_all infoI
  unfold Oper.wp
  simp [execOp, ho, Instr.buildSlice, run_underlying, run_sizeOf, Try.underlying24, hi, hz1, Instr.fill, newRow, newObj, Result.andThen]
  rw [show (Array.map (fun x => (default : Value)) (Array.range 0)) = #[] from by simp]
  refine hK _ _ (h (w.alloc (.cells #[] 39)) ?_ rfl)
  exact ⟨rfl, .inr ⟨w.heap.size, 0, #[], rfl, hb, heap_alloc_last w _, Nat.le_refl _, Nat.zero_le _, rfl, rfl⟩⟩
theorem wpList_append_inss (hgd : o.guard = none) (s x : Operand) (ho : o.op = .call { callee := .builtin .append, args := #[s, x], argTypes := #[24, 24] }) (base : Nat) (v : Value) (L M : List (Nat → Int)) (hs : a.eval s = v)
    (hown : OI w base v L) (ao : Option Addr) (c : Nat) (hx : a.eval x = .slice ao M.length c) (hrow : IR w (.slice ao M.length c) M) (hL : L.length + M.length ≤ 1000000) (hbase : base ≤ w.heap.size)
    (h : ∀ v' w', OI w' base v' (L ++ M) → w.grownBy w' v.ownBlock → wpList Try.prog ops Q rest (a.put o.dst v') w') : wpList Try.prog ops Q (o :: rest) a w :=
  wpList_plain hgd fun K hK => wp_append_inss s x ho base v L M hs hown ao c hx hrow hL hbase fun v' w' h1 h2 => hK _ _ (h v' w' h1 h2)
end

set_option maxRecDepth 10000 in
set_option maxHeartbeats 4000000 in
theorem copied_any (C : Cod) (v : Value) (w : World) (h : IR w v C.ins) (hl : C.ins.length ≤ 4097) : Calls Try.prog 25 #[.agg #[.int .i64 (C).stage, v, .int .i64 (C).regs, .int .i64 (C).attr, .int .i64 (C).unif, .int .i64 (C).vary]] w fun e w' => ∃ am cm, e = .returned (.agg #[.int .i64 (C).stage, .slice am C.ins.length cm, .int .i64 (C).regs, .int .i64 (C).attr, .int .i64 (C).unif, .int .i64 (C).vary]) ∧ IR w' (.slice am C.ins.length cm) C.ins ∧ Ext w w' := by
  have HV := hide h
  obtain ⟨ao, ca, rfl, hn0, hlc, hcm, hat⟩ := h
  clear hat hn0
  have HX0 : Hid (Ext w ((w.alloc (.cells #[.int .i64 (C).stage, .slice ao C.ins.length ca, .int .i64 (C).regs, .int .i64 (C).attr, .int .i64 (C).unif, .int .i64 (C).vary] 26)).alloc (.cells #[.int .i64 0, .slice none 0 0, .int .i64 0, .int .i64 0, .int .i64 0, .int .i64 0] 26))) := ((Ext.refl w).alloc _).alloc _
  have HB0 : Hid (Blk ((w.alloc (.cells #[.int .i64 (C).stage, .slice ao C.ins.length ca, .int .i64 (C).regs, .int .i64 (C).attr, .int .i64 (C).unif, .int .i64 (C).vary] 26)).alloc (.cells #[.int .i64 0, .slice none 0 0, .int .i64 0, .int .i64 0, .int .i64 0, .int .i64 0] 26)) w.heap.size #[.int .i64 (C).stage, .slice ao C.ins.length ca, .int .i64 (C).regs, .int .i64 (C).attr, .int .i64 (C).unif, .int .i64 (C).vary] 26) := (Blk.new w _ _).alloc _
  have HR0 : Hid (Blk ((w.alloc (.cells #[.int .i64 (C).stage, .slice ao C.ins.length ca, .int .i64 (C).regs, .int .i64 (C).attr, .int .i64 (C).unif, .int .i64 (C).vary] 26)).alloc (.cells #[.int .i64 0, .slice none 0 0, .int .i64 0, .int .i64 0, .int .i64 0, .int .i64 0] 26)) (w.heap.size + 1) #[.int .i64 0, .slice none 0 0, .int .i64 0, .int .i64 0, .int .i64 0, .int .i64 0] 26) := Blk.here (by simp)
  go_enter Try.func25, Try.ntmps25
  go_upto_region 1 with fail
  generalize ((w.alloc (.cells #[.int .i64 (C).stage, .slice ao C.ins.length ca, .int .i64 (C).regs, .int .i64 (C).attr, .int .i64 (C).unif, .int .i64 (C).vary] 26)).alloc (.cells #[.int .i64 0, .slice none 0 0, .int .i64 0, .int .i64 0, .int .i64 0, .int .i64 0] 26)) = w0 at HX0 HB0 HR0 ⊢
  go_wp2_with (refine wpList_build_none rfl rfl w.heap.size (unhide HX0).size ?_)
  intro w1 hio e1
  have HX1 : Hid (Ext w w1) := by rw [Hid, e1]; exact (unhide HX0).alloc _
  have HB1 : Hid (Blk w1 w.heap.size #[.int .i64 (C).stage, .slice ao C.ins.length ca, .int .i64 (C).regs, .int .i64 (C).attr, .int .i64 (C).unif, .int .i64 (C).vary] 26) := by rw [Hid, e1]; exact (unhide HB0).alloc _
  have HR1 : Hid (Blk w1 (w.heap.size + 1) #[.int .i64 0, .slice none 0 0, .int .i64 0, .int .i64 0, .int .i64 0, .int .i64 0] 26) := by rw [Hid, e1]; exact (unhide HR0).alloc _
  have HIO := hide hio
  generalize w0.heap.size = g0 at *
  clear e1 hio HX0 HB0 HR0
  obtain ⟨z0, z1, z2, z3, z4, z5⟩ := cellC (unhide HB1)
  go_wp2_with (refine wpList_append_inss rfl (.tmp 3) (.tmp 5) rfl w.heap.size _ [] C.ins rfl (unhide HIO) ao ca rfl ((unhide HV).ext (unhide HX1)) (by simp; omega) (unhide HX1).size ?_)
  intro v6 w2 hm2 hg
  try rw [List.nil_append] at hm2
  have hxx : Ext w w2 := (unhide HX1).grown hg (unhide HX1).size (fun k e => ((unhide HIO).lt k e).1)
  have HB2 := hide ((unhide HB1).grownO hg ((unhide HIO).neB (unhide HB1) (by decide)))
  have HR2 := hide ((unhide HR1).grownO hg ((unhide HIO).neB (unhide HR1) (by decide)))
  obtain ⟨am, cm, e6, _⟩ := hm2.shape
  subst e6
  have HM := hide hm2
  have HX2 := hide hxx
  clear hm2 hg hxx HIO HB1 HR1 HX1 z0 z1 z2 z3 z4 z5
  have HB3 := hide ((unhide HB2).set 1 (.slice am C.ins.length cm))
  have HR3 := hide ((unhide HR2).other (r := w.heap.size) 1 (.slice am C.ins.length cm) (by omega))
  have HM3 := hide ((unhide HM).kept9 (grownBy_set w2 w.heap.size 1 (.slice am C.ins.length cm)) ((unhide HM).neB (unhide HB2) (by decide)))
  have HX3 := hide (extSet (i := 1) (v := .slice am C.ins.length cm) (unhide HX2) (Nat.le_refl _))
  have c1 := (cellC (unhide HB2)).2.1
  have f1 := (unhide HB2).free 1
  go_upto_region 2 with fail
  generalize w2.setCell _ _ = w3 at HB3 HR3 HM3 HX3 ⊢
  clear HB2 HR2 HM HX2 c1 f1
  have HB4 : Hid (Blk w3 w.heap.size #[.int .i64 (C).stage, .slice am C.ins.length cm, .int .i64 (C).regs, .int .i64 (C).attr, .int .i64 (C).unif, .int .i64 (C).vary] 26) := unhide HB3
  clear HB3
  go_wp2_with (first
    | refine wpList_load_row rfl 26 (.tmp 1) rfl w.heap.size rfl 26 #[.int .i64 (C).stage, .slice am C.ins.length cm, .int .i64 (C).regs, .int .i64 (C).attr, .int .i64 (C).unif, .int .i64 (C).vary] (0, 0) _ (unhide HB4) Try.underlying26 rfl size6 ?_
    | refine wpList_store_row rfl 26 (.tmp 2) (.tmp 8) rfl (w.heap.size + 1) #[.int .i64 (C).stage, .slice am C.ins.length cm, .int .i64 (C).regs, .int .i64 (C).attr, .int .i64 (C).unif, .int .i64 (C).vary] rfl rfl 26 _ (unhide HR3) size6 rfl (by simp [Value.oneCell']) ?_)
  refine bodyPost_ret (v := .agg #[.int .i64 (C).stage, .slice am C.ins.length cm, .int .i64 (C).regs, .int .i64 (C).attr, .int .i64 (C).unif, .int .i64 (C).vary]) (results_cell_row Try.results25 _ _ (w.heap.size + 1) 26 _ (0, 0) _ rfl ((unhide HR3).rowC) Try.underlying26 rfl size6) rfl ?_
  exact ⟨am, cm, rfl, ((unhide HM3).kept9 (grownBy_row _ _ _) ((unhide HM3).neB (unhide HR3) (by decide))).ir, extRow (unhide HX3) (by omega)⟩

set_option maxRecDepth 10000 in
set_option maxHeartbeats 8000000 in
theorem refSame_any (C D : Cod) (v u : Value) (w : World) (hA : IR w v C.ins) (hB : IR w u D.ins) : Calls Try.prog 9 #[.agg #[.int .i64 (C).stage, v, .int .i64 (C).regs, .int .i64 (C).attr, .int .i64 (C).unif, .int .i64 (C).vary], .agg #[.int .i64 (D).stage, u, .int .i64 (D).regs, .int .i64 (D).attr, .int .i64 (D).unif, .int .i64 (D).vary]] w fun e w' => e = .returned (.bool (sameC C D)) ∧ Ext w w' := by
  have HA := hide hA
  have HB := hide hB
  obtain ⟨ao, ca, rfl, _, ha1, ha2, _⟩ := hA
  obtain ⟨bo, cb, rfl, _, hb1, hb2, _⟩ := hB
  unfold maxLen at ha2 hb2
  have E := hide (sameC_hd C D)
  have HX : Hid (Ext w ((w.alloc (.cells #[.int .i64 (C).stage, .slice ao C.ins.length ca, .int .i64 (C).regs, .int .i64 (C).attr, .int .i64 (C).unif, .int .i64 (C).vary] 26)).alloc (.cells #[.int .i64 (D).stage, .slice bo D.ins.length cb, .int .i64 (D).regs, .int .i64 (D).attr, .int .i64 (D).unif, .int .i64 (D).vary] 26))) := ((Ext.refl w).alloc _).alloc _
  have HCA : Hid (Blk ((w.alloc (.cells #[.int .i64 (C).stage, .slice ao C.ins.length ca, .int .i64 (C).regs, .int .i64 (C).attr, .int .i64 (C).unif, .int .i64 (C).vary] 26)).alloc (.cells #[.int .i64 (D).stage, .slice bo D.ins.length cb, .int .i64 (D).regs, .int .i64 (D).attr, .int .i64 (D).unif, .int .i64 (D).vary] 26)) w.heap.size #[.int .i64 (C).stage, .slice ao C.ins.length ca, .int .i64 (C).regs, .int .i64 (C).attr, .int .i64 (C).unif, .int .i64 (C).vary] 26) := (Blk.new w _ _).alloc _
  have HCB : Hid (Blk ((w.alloc (.cells #[.int .i64 (C).stage, .slice ao C.ins.length ca, .int .i64 (C).regs, .int .i64 (C).attr, .int .i64 (C).unif, .int .i64 (C).vary] 26)).alloc (.cells #[.int .i64 (D).stage, .slice bo D.ins.length cb, .int .i64 (D).regs, .int .i64 (D).attr, .int .i64 (D).unif, .int .i64 (D).vary] 26)) (w.heap.size + 1) #[.int .i64 (D).stage, .slice bo D.ins.length cb, .int .i64 (D).regs, .int .i64 (D).attr, .int .i64 (D).unif, .int .i64 (D).vary] 26) := Blk.here (by simp)
  have E2 : Hid (sameL C.ins D.ins = (decide (C.ins.length = D.ins.length) && sameTo C.ins D.ins C.ins.length)) := rfl
  generalize sameC C D = z at *
  generalize sameL C.ins D.ins = sl at *
  go_enter Try.func9, Try.ntmps9
  go_upto_region 1 with fail
  generalize ((w.alloc (.cells #[.int .i64 (C).stage, .slice ao C.ins.length ca, .int .i64 (C).regs, .int .i64 (C).attr, .int .i64 (C).unif, .int .i64 (C).vary] 26)).alloc (.cells #[.int .i64 (D).stage, .slice bo D.ins.length cb, .int .i64 (D).regs, .int .i64 (D).attr, .int .i64 (D).unif, .int .i64 (D).vary] 26)) = w2 at HCA HCB HX ⊢
  obtain ⟨p0, p1, p2, p3, p4, p5⟩ := cellC (unhide HCA)
  obtain ⟨q0, q1, q2, q3, q4, q5⟩ := cellC (unhide HCB)
  by_cases d0 : C.stage = D.stage
  case neg =>
    have EQ : Hid (z = false) := by rw [Hid, unhide E]; simp [d0]
    have b0 : (C.stage != D.stage) = true := by simp; exact d0
    clear E E2 d0
    go_wp2
    go_ret
    rw [unhide EQ]
    exact ⟨rfl, unhide HX⟩
  case pos =>
  have b0 : (C.stage != D.stage) = false := by simp [d0]
  by_cases d1 : C.regs = D.regs
  case neg =>
    have EQ : Hid (z = false) := by rw [Hid, unhide E]; simp [d1]
    have b1 : (C.regs != D.regs) = true := by simp; exact d1
    clear E E2 d1
    go_wp2
    go_ret
    rw [unhide EQ]
    exact ⟨rfl, unhide HX⟩
  case pos =>
  have b1 : (C.regs != D.regs) = false := by simp [d1]
  by_cases d2 : C.attr = D.attr
  case neg =>
    have EQ : Hid (z = false) := by rw [Hid, unhide E]; simp [d2]
    have b2 : (C.attr != D.attr) = true := by simp; exact d2
    clear E E2 d2
    go_wp2
    go_ret
    rw [unhide EQ]
    exact ⟨rfl, unhide HX⟩
  case pos =>
  have b2 : (C.attr != D.attr) = false := by simp [d2]
  by_cases d3 : C.unif = D.unif
  case neg =>
    have EQ : Hid (z = false) := by rw [Hid, unhide E]; simp [d3]
    have b3 : (C.unif != D.unif) = true := by simp; exact d3
    clear E E2 d3
    go_wp2
    go_ret
    rw [unhide EQ]
    exact ⟨rfl, unhide HX⟩
  case pos =>
  have b3 : (C.unif != D.unif) = false := by simp [d3]
  by_cases d4 : C.vary = D.vary
  case neg =>
    have EQ : Hid (z = false) := by rw [Hid, unhide E]; simp [d4]
    have b4 : (C.vary != D.vary) = true := by simp; exact d4
    clear E E2 d4
    go_wp2
    go_ret
    rw [unhide EQ]
    exact ⟨rfl, unhide HX⟩
  case pos =>
  have b4 : (C.vary != D.vary) = false := by simp [d4]
  by_cases d5 : (C.ins.length : Int) = (D.ins.length : Int)
  case neg =>
    have EQ : Hid (z = false) := by rw [Hid, unhide E]; simp [d5]
    have b5 : ((C.ins.length : Int) != (D.ins.length : Int)) = true := by simp; exact d5
    clear E E2 d5
    go_wp2
    go_ret
    rw [unhide EQ]
    exact ⟨rfl, unhide HX⟩
  case pos =>
  have b5 : ((C.ins.length : Int) != (D.ins.length : Int)) = false := by simp [d5]
  have el : C.ins.length = D.ins.length := by omega
  have EQ : Hid (z = sameTo C.ins D.ins C.ins.length) := by
    rw [Hid, unhide E, unhide E2, decide_eq_true el]
    simp [d0, d1, d2, d3, d4, d5]
  have HL := hide el
  rw [← el] at HB hb1 HCB q1 b5
  clear E E2 d0 d1 d2 d3 d4 d5 el
  go_upto_region 4 with fail
  generalize C.ins = A at *
  generalize D.ins = B at *
  clear p0 p2 p3 p4 p5 q0 q2 q3 q4 q5 b0 b1 b2 b3 b4 b5
  go_loopw [51] (fun iv wr => ∃ k : Nat, k ≤ A.length ∧ iv = .int .i64 (k : Int) ∧ Ext w2 wr ∧ sameTo A B k = true) (fun iv _ => A.length - (intOf iv).toNat)
  case atStart => exact ⟨0, Nat.zero_le _, rfl, Ext.refl _, rfl⟩
  case round =>
    obtain ⟨k, hk, rfl, hx, hs⟩ := hrel
    have X := hide ((unhide HX).trans hx)
    have XW := hide hx
    have HCA := hide ((unhide HCA).ext hx)
    have HCB := hide ((unhide HCB).ext hx)
    have HS0 := hide hs
    clear hx hs p1 q1
    by_cases hlt : k < A.length
    · have hlB : k < B.length := by rw [← unhide HL]; exact hlt
      have hkn : (k : Int) < (A.length : Int) := by omega
      obtain ⟨_, _, e1, _, _, _, hat⟩ := (unhide HA).ext (unhide X)
      have e1' := (Value.slice.inj e1).1
      subst e1'
      obtain ⟨ba, oa, rfl, hra⟩ := hat k hlt
      obtain ⟨_, _, e2, _, _, _, hbt⟩ := (unhide HB).ext (unhide X)
      have e2' := (Value.slice.inj e2).1
      subst e2'
      obtain ⟨bb, ob, rfl, hrb⟩ := hbt k hlB
      have HRA := hide hra
      have HRB := hide hrb
      have HSU := hide (sameTo_succ A B k)
      have HSF := hide (fun h => sameTo_false (A := A) (B := B) (k := k) (n := A.length) h hlt)
      rw [show A.getD k zI = A[k] by simp [hlt], show B.getD k zI = B[k] by simp [hlB]] at HSU HSF
      have HEQ := hide (fun wx => eqI A[k] B[k] wx)
      generalize A[k] = x at *
      generalize B[k] = y at *
      clear hra hrb hat hbt e1 e2
      generalize hsm : sameI x y = sm at *
      clear hsm
      cases sm
      case false =>
        have EF := hide (unhide HSF (by first | rfl | trivial))
        go_upto_region 6 with fail
        refine wp_region_noPanic ?_
        refine wp_region_held_drew (S := fun wx => Ext wr wx) (by kernel_rfl) ((Ext.refl _).drew) (fun HS => ?_)
        refine wpAnyH_take (i := 0) (oi := { dst := some 54, op := Op.fieldAddr _ (Operand.tmp 2) 1, type := _, pos := _, after := _, guard := none }) (v := .pointer (some ⟨w.heap.size, 1, none⟩)) rfl (by kernel_rfl) (by kernel_rfl) (by kernel_rfl) (fun _ _ _ h => h) (Or.inl ⟨by rfl, fun _ _ => rfl⟩) HS ?_
        simp only [Act.put, List.setIfInBounds_toArray, List.set_cons_zero, List.set_cons_succ]
        refine wpAnyH_take (i := 1) (oi := { dst := some 55, op := Op.load _ (Operand.tmp 54), type := _, pos := _, after := _, guard := none }) (v := .slice (some ⟨ba, oa, none⟩) A.length ca) rfl (by kernel_rfl) (by kernel_rfl) (by kernel_rfl) (fun _ _ _ h => h) (Or.inl ⟨by rfl, fun wx hx => by have h1 := (cellC ((unhide HCA).ext hx)).2.1; go_simp⟩) HS ?_
        simp only [Act.put, List.setIfInBounds_toArray, List.set_cons_zero, List.set_cons_succ]
        refine wpAnyH_take (i := 2) (oi := { dst := some 56, op := Op.move (Operand.tmp 5), type := _, pos := _, after := _, guard := none }) (v := .int .i64 (k : Int)) rfl (by kernel_rfl) (by kernel_rfl) (by kernel_rfl) (fun _ _ _ h => h) (Or.inl ⟨by rfl, fun _ _ => rfl⟩) HS ?_
        simp only [Act.put, List.setIfInBounds_toArray, List.set_cons_zero, List.set_cons_succ]
        refine wpAnyH_take (i := 3) (oi := { dst := some 57, op := Op.indexAddr _ (Operand.tmp 55) (Operand.tmp 56), type := _, pos := _, after := _, guard := none }) (v := .pointer (some ⟨ba, oa + k * 16, none⟩)) rfl (by kernel_rfl) (by kernel_rfl) (by kernel_rfl) (fun _ _ _ h => h) (Or.inl ⟨by rfl, fun wx hx => by go_simp⟩) HS ?_
        simp only [Act.put, List.setIfInBounds_toArray, List.set_cons_zero, List.set_cons_succ]
        refine wpAnyH_take (i := 4) (oi := { dst := some 58, op := Op.load _ (Operand.tmp 57), type := _, pos := _, after := _, guard := none }) (v := .agg (insA x)) rfl (by kernel_rfl) (by kernel_rfl) (by kernel_rfl) (fun _ _ _ h => h) (yieldsIf_load_mid (by rfl) 39 (.tmp 57) rfl ba (oa + k * 16) rfl (insA x).toList _ (fun wx hx => rng_ext (unhide HRA) hx) Try.underlying39 rfl size16) HS ?_
        simp only [Act.put, List.setIfInBounds_toArray, List.set_cons_zero, List.set_cons_succ]
        refine wpAnyH_take (i := 5) (oi := { dst := some 59, op := Op.fieldAddr _ (Operand.tmp 3) 1, type := _, pos := _, after := _, guard := none }) (v := .pointer (some ⟨w.heap.size + 1, 1, none⟩)) rfl (by kernel_rfl) (by kernel_rfl) (by kernel_rfl) (fun _ _ _ h => h) (Or.inl ⟨by rfl, fun _ _ => rfl⟩) HS ?_
        simp only [Act.put, List.setIfInBounds_toArray, List.set_cons_zero, List.set_cons_succ]
        refine wpAnyH_take (i := 6) (oi := { dst := some 60, op := Op.load _ (Operand.tmp 59), type := _, pos := _, after := _, guard := none }) (v := .slice (some ⟨bb, ob, none⟩) A.length cb) rfl (by kernel_rfl) (by kernel_rfl) (by kernel_rfl) (fun _ _ _ h => h) (Or.inl ⟨by rfl, fun wx hx => by have h1 := (cellC ((unhide HCB).ext hx)).2.1; go_simp⟩) HS ?_
        simp only [Act.put, List.setIfInBounds_toArray, List.set_cons_zero, List.set_cons_succ]
        refine wpAnyH_take (i := 7) (oi := { dst := some 61, op := Op.move (Operand.tmp 5), type := _, pos := _, after := _, guard := none }) (v := .int .i64 (k : Int)) rfl (by kernel_rfl) (by kernel_rfl) (by kernel_rfl) (fun _ _ _ h => h) (Or.inl ⟨by rfl, fun _ _ => rfl⟩) HS ?_
        simp only [Act.put, List.setIfInBounds_toArray, List.set_cons_zero, List.set_cons_succ]
        refine wpAnyH_take (i := 8) (oi := { dst := some 62, op := Op.indexAddr _ (Operand.tmp 60) (Operand.tmp 61), type := _, pos := _, after := _, guard := none }) (v := .pointer (some ⟨bb, ob + k * 16, none⟩)) rfl (by kernel_rfl) (by kernel_rfl) (by kernel_rfl) (fun _ _ _ h => h) (Or.inl ⟨by rfl, fun wx hx => by go_simp⟩) HS ?_
        simp only [Act.put, List.setIfInBounds_toArray, List.set_cons_zero, List.set_cons_succ]
        refine wpAnyH_take (i := 9) (oi := { dst := some 63, op := Op.load _ (Operand.tmp 62), type := _, pos := _, after := _, guard := none }) (v := .agg (insA y)) rfl (by kernel_rfl) (by kernel_rfl) (by kernel_rfl) (fun _ _ _ h => h) (yieldsIf_load_mid (by rfl) 39 (.tmp 62) rfl bb (ob + k * 16) rfl (insA y).toList _ (fun wx hx => rng_ext (unhide HRB) hx) Try.underlying39 rfl size16) HS ?_
        simp only [Act.put, List.setIfInBounds_toArray, List.set_cons_zero, List.set_cons_succ]
        refine wpAnyH_take (i := 10) (oi := { dst := some 64, op := Op.binOp BinOp.neq _ (Operand.tmp 58) (Operand.tmp 63) _, type := _, pos := _, after := _, guard := none }) (v := .bool true) rfl (by kernel_rfl) (by kernel_rfl) (by kernel_rfl) (fun _ _ _ h => h) (Or.inl ⟨by rfl, fun wx hx => exec_ne _ _ (.tmp 58) (.tmp 63) _ _ _ _ false rfl rfl rfl grdI (unhide HEQ wx)⟩) HS ?_
        simp only [Act.put, List.setIfInBounds_toArray, List.set_cons_zero, List.set_cons_succ]
        refine wpAnyH_done (by kernel_rfl) ?_ _
        refine NoPanic.normal ?_
        have HX9 := hide ((unhide X).trans HS)
        go_wp2
        go_ret
        rw [unhide EQ, unhide EF]
        exact ⟨rfl, unhide HX9⟩
      case true =>
        have ET : Hid (sameTo A B (k + 1) = true) := by rw [Hid, unhide HSU, unhide HS0]; rfl
        go_upto_region 6 with fail
        refine wp_region_noPanic ?_
        refine wp_region_held_drew (S := fun wx => Ext wr wx) (by kernel_rfl) ((Ext.refl _).drew) (fun HS => ?_)
        refine wpAnyH_take (i := 0) (oi := { dst := some 54, op := Op.fieldAddr _ (Operand.tmp 2) 1, type := _, pos := _, after := _, guard := none }) (v := .pointer (some ⟨w.heap.size, 1, none⟩)) rfl (by kernel_rfl) (by kernel_rfl) (by kernel_rfl) (fun _ _ _ h => h) (Or.inl ⟨by rfl, fun _ _ => rfl⟩) HS ?_
        simp only [Act.put, List.setIfInBounds_toArray, List.set_cons_zero, List.set_cons_succ]
        refine wpAnyH_take (i := 1) (oi := { dst := some 55, op := Op.load _ (Operand.tmp 54), type := _, pos := _, after := _, guard := none }) (v := .slice (some ⟨ba, oa, none⟩) A.length ca) rfl (by kernel_rfl) (by kernel_rfl) (by kernel_rfl) (fun _ _ _ h => h) (Or.inl ⟨by rfl, fun wx hx => by have h1 := (cellC ((unhide HCA).ext hx)).2.1; go_simp⟩) HS ?_
        simp only [Act.put, List.setIfInBounds_toArray, List.set_cons_zero, List.set_cons_succ]
        refine wpAnyH_take (i := 2) (oi := { dst := some 56, op := Op.move (Operand.tmp 5), type := _, pos := _, after := _, guard := none }) (v := .int .i64 (k : Int)) rfl (by kernel_rfl) (by kernel_rfl) (by kernel_rfl) (fun _ _ _ h => h) (Or.inl ⟨by rfl, fun _ _ => rfl⟩) HS ?_
        simp only [Act.put, List.setIfInBounds_toArray, List.set_cons_zero, List.set_cons_succ]
        refine wpAnyH_take (i := 3) (oi := { dst := some 57, op := Op.indexAddr _ (Operand.tmp 55) (Operand.tmp 56), type := _, pos := _, after := _, guard := none }) (v := .pointer (some ⟨ba, oa + k * 16, none⟩)) rfl (by kernel_rfl) (by kernel_rfl) (by kernel_rfl) (fun _ _ _ h => h) (Or.inl ⟨by rfl, fun wx hx => by go_simp⟩) HS ?_
        simp only [Act.put, List.setIfInBounds_toArray, List.set_cons_zero, List.set_cons_succ]
        refine wpAnyH_take (i := 4) (oi := { dst := some 58, op := Op.load _ (Operand.tmp 57), type := _, pos := _, after := _, guard := none }) (v := .agg (insA x)) rfl (by kernel_rfl) (by kernel_rfl) (by kernel_rfl) (fun _ _ _ h => h) (yieldsIf_load_mid (by rfl) 39 (.tmp 57) rfl ba (oa + k * 16) rfl (insA x).toList _ (fun wx hx => rng_ext (unhide HRA) hx) Try.underlying39 rfl size16) HS ?_
        simp only [Act.put, List.setIfInBounds_toArray, List.set_cons_zero, List.set_cons_succ]
        refine wpAnyH_take (i := 5) (oi := { dst := some 59, op := Op.fieldAddr _ (Operand.tmp 3) 1, type := _, pos := _, after := _, guard := none }) (v := .pointer (some ⟨w.heap.size + 1, 1, none⟩)) rfl (by kernel_rfl) (by kernel_rfl) (by kernel_rfl) (fun _ _ _ h => h) (Or.inl ⟨by rfl, fun _ _ => rfl⟩) HS ?_
        simp only [Act.put, List.setIfInBounds_toArray, List.set_cons_zero, List.set_cons_succ]
        refine wpAnyH_take (i := 6) (oi := { dst := some 60, op := Op.load _ (Operand.tmp 59), type := _, pos := _, after := _, guard := none }) (v := .slice (some ⟨bb, ob, none⟩) A.length cb) rfl (by kernel_rfl) (by kernel_rfl) (by kernel_rfl) (fun _ _ _ h => h) (Or.inl ⟨by rfl, fun wx hx => by have h1 := (cellC ((unhide HCB).ext hx)).2.1; go_simp⟩) HS ?_
        simp only [Act.put, List.setIfInBounds_toArray, List.set_cons_zero, List.set_cons_succ]
        refine wpAnyH_take (i := 7) (oi := { dst := some 61, op := Op.move (Operand.tmp 5), type := _, pos := _, after := _, guard := none }) (v := .int .i64 (k : Int)) rfl (by kernel_rfl) (by kernel_rfl) (by kernel_rfl) (fun _ _ _ h => h) (Or.inl ⟨by rfl, fun _ _ => rfl⟩) HS ?_
        simp only [Act.put, List.setIfInBounds_toArray, List.set_cons_zero, List.set_cons_succ]
        refine wpAnyH_take (i := 8) (oi := { dst := some 62, op := Op.indexAddr _ (Operand.tmp 60) (Operand.tmp 61), type := _, pos := _, after := _, guard := none }) (v := .pointer (some ⟨bb, ob + k * 16, none⟩)) rfl (by kernel_rfl) (by kernel_rfl) (by kernel_rfl) (fun _ _ _ h => h) (Or.inl ⟨by rfl, fun wx hx => by go_simp⟩) HS ?_
        simp only [Act.put, List.setIfInBounds_toArray, List.set_cons_zero, List.set_cons_succ]
        refine wpAnyH_take (i := 9) (oi := { dst := some 63, op := Op.load _ (Operand.tmp 62), type := _, pos := _, after := _, guard := none }) (v := .agg (insA y)) rfl (by kernel_rfl) (by kernel_rfl) (by kernel_rfl) (fun _ _ _ h => h) (yieldsIf_load_mid (by rfl) 39 (.tmp 62) rfl bb (ob + k * 16) rfl (insA y).toList _ (fun wx hx => rng_ext (unhide HRB) hx) Try.underlying39 rfl size16) HS ?_
        simp only [Act.put, List.setIfInBounds_toArray, List.set_cons_zero, List.set_cons_succ]
        refine wpAnyH_take (i := 10) (oi := { dst := some 64, op := Op.binOp BinOp.neq _ (Operand.tmp 58) (Operand.tmp 63) _, type := _, pos := _, after := _, guard := none }) (v := .bool false) rfl (by kernel_rfl) (by kernel_rfl) (by kernel_rfl) (fun _ _ _ h => h) (Or.inl ⟨by rfl, fun wx hx => exec_ne _ _ (.tmp 58) (.tmp 63) _ _ _ _ true rfl rfl rfl grdI (unhide HEQ wx)⟩) HS ?_
        simp only [Act.put, List.setIfInBounds_toArray, List.set_cons_zero, List.set_cons_succ]
        refine wpAnyH_done (by kernel_rfl) ?_ _
        refine NoPanic.normal ?_
        have HX9 := hide ((unhide XW).trans HS)
        go_wp2
        go_roundw
        case rel => exact ⟨k + 1, by omega, by go_num, unhide HX9, unhide ET⟩
        case measure => simp [intOf]; omega
    · obtain rfl : k = A.length := by omega
      go_wp2
      go_ret
      rw [unhide EQ, unhide HS0]
      exact ⟨rfl, unhide X⟩
end Go.Proofs.Ytfoffnbkfnbglaa

/-
  The document's Of.
-/
namespace Go.Proofs.Ytfoffnbkfnbglaa
open Go.RowKit
set_option linter.unusedVariables false
set_option linter.unusedSimpArgs false

theorem numA_rng (bs : List Int) (hB : Byt bs) (p : Nat) (h : p + 4 ≤ bs.length) : 0 ≤ numA bs p ∧ numA bs p < 4294967296 := by
  rw [numA_four bs p h]
  have h0 := hB bs[p] (List.getElem_mem _)
  have h1 := hB bs[p + 1] (List.getElem_mem _)
  have h2 := hB bs[p + 2] (List.getElem_mem _)
  have h3 := hB bs[p + 3] (List.getElem_mem _)
  omega
/-- The instruction at a place of the bytes, so many of its rows of four laid. -/
def jK (bs : List Int) (q k : Nat) (i : Nat) : Int :=
  if i < 8 then numA bs (q + 4 * i) else if i < 12 then (if i < 8 + k then sg (numA bs (q + 4 * i)) else 0) else (if i < 12 + k then numA bs (q + 4 * i) else 0)
theorem jK_zero (bs : List Int) (q : Nat) : insA (ofR [numA bs q, numA bs (q + 4), numA bs (q + 8), numA bs (q + 12), numA bs (q + 16), numA bs (q + 20), numA bs (q + 24), numA bs (q + 28), 0, 0, 0, 0, 0, 0, 0, 0]) = insA (jK bs q 0) := by simp [insA, jK, ofR]
theorem jK_succ (bs : List Int) (q k : Nat) (hk : k < 4) : ((insA (jK bs q k)).setIfInBounds (8 + k) (.int .i32 (sg (numA bs (q + 32 + 4 * k))))).setIfInBounds (12 + k) (.int .i64 (numA bs (q + 48 + 4 * k))) = insA (jK bs q (k + 1)) := by
  rcases (by omega : k = 0 ∨ k = 1 ∨ k = 2 ∨ k = 3) with rfl | rfl | rfl | rfl
  all_goals simp [insA, jK]
theorem jK_four (bs : List Int) (j : Nat) (h : 28 + 64 * (j + 1) ≤ bs.length) : insA (jK bs (28 + 64 * j) 4) = insA (insX bs 28 0 j) := by
  have e : ∀ i, i < 16 → jK bs (28 + 64 * j) 4 i = insX bs 28 0 j i := fun i hi => by
    rw [insX_at bs j i hi h]
    unfold jK
    by_cases h8 : i < 8
    · rw [if_pos h8, if_neg (by omega)]
    · by_cases h12 : i < 12
      · rw [if_neg h8, if_pos h12, if_pos (by omega), if_pos (by omega)]
      · rw [if_neg h8, if_neg h12, if_pos (by omega), if_neg (by omega)]
  unfold insA
  rw [e 0 (by omega), e 1 (by omega), e 2 (by omega), e 3 (by omega), e 4 (by omega), e 5 (by omega), e 6 (by omega), e 7 (by omega), e 8 (by omega), e 9 (by omega), e 10 (by omega), e 11 (by omega), e 12 (by omega), e 13 (by omega), e 14 (by omega), e 15 (by omega)]
theorem jcellM {w : World} {b : Nat} {I : Nat → Int} {t : TypeId} (h : Blk w b (insA I) t) (k : Nat) (hk : k < 4) : w.cell? ⟨b, 8 + k, none⟩ = some (.int .i32 (I (8 + k))) := by
  rcases (by omega : k = 0 ∨ k = 1 ∨ k = 2 ∨ k = 3) with rfl | rfl | rfl | rfl
  all_goals exact h.cell rfl
/-- What the document's Of answers. -/
def OfQ (w : World) (bs : List Int) (e : Ending) (w' : World) : Prop := Ext w w' ∧ ∃ (D : Cod) (ao : Option Addr) (cap : Nat), e = .returned (.tuple #[.agg #[.int .i64 (D).stage, .slice ao D.ins.length cap, .int .i64 (D).regs, .int .i64 (D).attr, .int .i64 (D).unif, .int .i64 (D).vary], .bool (decB bs)]) ∧ (decB bs = true → D = codA bs ∧ IR w' (.slice ao D.ins.length cap) D.ins)
theorem dec_split (bs : List Int) (h1 : bs.length ≤ 262172) (h2 : 28 ≤ bs.length) (h3 : (bs.length - 28) % 64 = 0) (h4 : numA bs 0 = 1128353872) (h5 : numA bs 24 = (nI bs : Int)) : decB bs = mayP (codA bs) := by
  unfold decB
  rw [decide_eq_true h1, decide_eq_true h2, decide_eq_true h3, decide_eq_true h4, decide_eq_true h5]
  rfl
/-- What stays while Of reads. -/
def OfS (w : World) (bs : List Int) (cs : Array Value) (ai : Option Addr) (ci : Nat) (B4 : Nat) (L : List (Nat → Int)) (wx : World) : Prop :=
  Ext w wx ∧ Blk wx w.heap.size #[.int .i64 0, .slice none 0 0, .int .i64 0, .int .i64 0, .int .i64 0, .int .i64 0] 26 ∧ Blk wx B4 cs 26 ∧ OI wx w.heap.size (.slice ai L.length ci) L
theorem OfS.ext {w : World} {bs : List Int} {cs : Array Value} {ai : Option Addr} {ci B4 : Nat} {L : List (Nat → Int)} {wx wy : World} (h : OfS w bs cs ai ci B4 L wx) (hx : Ext wx wy) : OfS w bs cs ai ci B4 L wy :=
  ⟨h.1.trans hx, h.2.1.ext hx, h.2.2.1.ext hx, h.2.2.2.ext hx⟩
theorem OfS.setG {w : World} {bs : List Int} {cs : Array Value} {ai : Option Addr} {ci B4 : Nat} {L : List (Nat → Int)} {wx : World} {j : Nat} (h : OfS w bs cs ai ci B4 L wx) (G i : Nat) (v : Value) (h1 : w.heap.size < G) (h2 : B4 < G) (h3 : ∀ g, (Value.slice ai j ci).ownBlock = some g → g < G) : OfS w bs cs ai ci B4 L (wx.setCell ⟨G, i, none⟩ v) := by
  refine ⟨extSet h.1 (by omega), h.2.1.other (r := G) i v (by omega), h.2.2.1.other (r := G) i v (by omega), h.2.2.2.kept9 (grownBy_set wx G i v) (fun e => ?_)⟩
  have e2 : (Value.slice ai j ci).ownBlock = some G := by cases ai <;> exact e
  have := h3 G e2
  omega
theorem j12 (I : Nat → Int) (k : Nat) (hk : k < 4) (v : Value) : ((insA I).setIfInBounds (8 + k) v)[12 + k]? = some (.int .i64 (I (12 + k))) := by
  rcases (by omega : k = 0 ∨ k = 1 ∨ k = 2 ∨ k = 3) with rfl | rfl | rfl | rfl
  all_goals rfl
def OfZ (w wx : World) : Prop := Ext w wx ∧ Blk wx w.heap.size #[.int .i64 0, .slice none 0 0, .int .i64 0, .int .i64 0, .int .i64 0, .int .i64 0] 26
theorem OfZ.ext {w wx wy : World} (h : OfZ w wx) (hx : Ext wx wy) : OfZ w wy := ⟨h.1.trans hx, h.2.ext hx⟩
end Go.Proofs.Ytfoffnbkfnbglaa

/-
  The walk of the document's Of.
-/
namespace Go.Proofs.Ytfoffnbkfnbglaa
open Go.RowKit
set_option linter.unusedVariables false
set_option linter.unusedSimpArgs false

set_option maxRecDepth 10000 in
set_option maxHeartbeats 8000000 in
theorem refOf_any (bo : Option Addr) (cb : Nat) (bs : List Int) (w : World) (hr : Row .u8 w (.slice bo bs.length cb) bs) (hB : Byt bs) : Calls Try.prog 6 #[.slice bo bs.length cb] w (OfQ w bs) := by
  obtain ⟨_, _, esh, hsh, hlc, hcm⟩ := hr.shape
  have esh2 := (Value.slice.inj esh).2.2
  rw [← esh2] at hlc hcm
  clear esh esh2 hsh
  unfold maxLen at hcm
  have HN : Hid (∀ wx, Ext w wx → ∀ (z : Int) (p : Nat), z = (p : Int) → p + 4 ≤ bs.length → Calls Try.prog 15 #[.slice bo bs.length cb, .int .i64 z] wx fun e w' => e = .returned (.int .i64 (numA bs p)) ∧ Ext wx w') := fun wx hx z p hz hp => by
    subst hz
    exact refNum_any bo cb bs p wx (hr.below hx) hB hp
  have HNB := hide (numA_rng bs hB)
  have HB0 := hide (Blk.new w #[.int .i64 0, .slice none 0 0, .int .i64 0, .int .i64 0, .int .i64 0, .int .i64 0] 26)
  have HX0 := hide ((Ext.refl w).alloc (.cells #[.int .i64 0, .slice none 0 0, .int .i64 0, .int .i64 0, .int .i64 0, .int .i64 0] 26))
  have HD : Hid (decB bs = (decide (bs.length ≤ 262172) && (decide (28 ≤ bs.length) && (decide ((bs.length - 28) % 64 = 0) && (decide (numA bs 0 = 1128353872) && (decide (numA bs 24 = (nI bs : Int)) && mayP (codA bs))))))) := rfl
  clear hr hB
  have HBAD : Hid (∀ wx, Ext w wx → decB bs = false → OfQ w bs (.returned (.tuple #[.agg #[.int .i64 (zC).stage, .slice none 0 0, .int .i64 (zC).regs, .int .i64 (zC).attr, .int .i64 (zC).unif, .int .i64 (zC).vary], .bool false])) wx) := fun wx hx hd => ⟨hx, zC, none, 0, by rw [hd]; rfl, fun h => by rw [hd] at h; cases h⟩
  by_cases hg : 28 ≤ bs.length ∧ (bs.length - 28) % 64 = 0 ∧ bs.length ≤ 262172
  case neg =>
    have hd : decB bs = false := by
      cases hq : decB bs with
      | false => rfl
      | true =>
        rw [unhide HD] at hq
        simp only [Bool.and_eq_true, decide_eq_true_eq] at hq
        exact (hg ⟨hq.2.1, hq.2.2.1, hq.1⟩).elim
    have HDF := hide hd
    clear hd HD
    generalize hn : bs.length = n at *
    have HG := hide hg
    clear hg
    by_cases h1 : n < 28
    · have h1' : (n : Int) < 28 := by omega
      go_enter Try.func6, Try.ntmps6
      go_wp2_with (first
        | refine wpList_buildTo rfl 26 _ rfl (some 23) rfl #[.int .i64 (zC).stage, .slice none 0 0, .int .i64 (zC).regs, .int .i64 (zC).attr, .int .i64 (zC).unif, .int .i64 (zC).vary] (by kernel_rfl) ?_
        | refine wpList_store_row rfl 26 (.tmp 2) (.tmp 23) rfl w.heap.size #[.int .i64 (zC).stage, .slice none 0 0, .int .i64 (zC).regs, .int .i64 (zC).attr, .int .i64 (zC).unif, .int .i64 (zC).vary] rfl rfl 26 _ (unhide HB0) size6 rfl (by simp [Value.oneCell']) ?_)
      exact bodyPost_ret (v := .tuple #[.agg #[.int .i64 (zC).stage, .slice none 0 0, .int .i64 (zC).regs, .int .i64 (zC).attr, .int .i64 (zC).unif, .int .i64 (zC).vary], .bool false]) (results_cellTmp Try.results6 _ _ w.heap.size 26 #[.int .i64 (zC).stage, .slice none 0 0, .int .i64 (zC).regs, .int .i64 (zC).attr, .int .i64 (zC).unif, .int .i64 (zC).vary] _ rfl (.bool false) rfl ((unhide HB0).rowC) Try.underlying26 rfl size6) rfl (unhide HBAD _ (extRow (unhide HX0) (Nat.le_refl _)) (unhide HDF))
    · have h1' : ¬ (n : Int) < 28 := by omega
      have hr0 : ((n : Int) - 28).tmod 64 = (((n - 28) % 64 : Nat) : Int) := by rw [Int.tmod_eq_emod_of_nonneg (by omega)]; omega
      have hr1 : ((n : Int) - 28) % 64 = (((n - 28) % 64 : Nat) : Int) := by omega
      generalize hr : (n - 28) % 64 = r at *
      by_cases h2 : r = 0
      · have h3 : (262172 : Int) < (n : Int) := by have := unhide HG; omega
        subst h2
        go_enter Try.func6, Try.ntmps6
        go_wp2_with (first
          | refine wpList_buildTo rfl 26 _ rfl (some 23) rfl #[.int .i64 (zC).stage, .slice none 0 0, .int .i64 (zC).regs, .int .i64 (zC).attr, .int .i64 (zC).unif, .int .i64 (zC).vary] (by kernel_rfl) ?_
          | refine wpList_store_row rfl 26 (.tmp 2) (.tmp 23) rfl w.heap.size #[.int .i64 (zC).stage, .slice none 0 0, .int .i64 (zC).regs, .int .i64 (zC).attr, .int .i64 (zC).unif, .int .i64 (zC).vary] rfl rfl 26 _ (unhide HB0) size6 rfl (by simp [Value.oneCell']) ?_)
        exact bodyPost_ret (v := .tuple #[.agg #[.int .i64 (zC).stage, .slice none 0 0, .int .i64 (zC).regs, .int .i64 (zC).attr, .int .i64 (zC).unif, .int .i64 (zC).vary], .bool false]) (results_cellTmp Try.results6 _ _ w.heap.size 26 #[.int .i64 (zC).stage, .slice none 0 0, .int .i64 (zC).regs, .int .i64 (zC).attr, .int .i64 (zC).unif, .int .i64 (zC).vary] _ rfl (.bool false) rfl ((unhide HB0).rowC) Try.underlying26 rfl size6) rfl (unhide HBAD _ (extRow (unhide HX0) (Nat.le_refl _)) (unhide HDF))
      · have h3 : ((r : Int) != 0) = true := by simp; omega
        go_enter Try.func6, Try.ntmps6
        go_wp2_with (first
          | refine wpList_buildTo rfl 26 _ rfl (some 23) rfl #[.int .i64 (zC).stage, .slice none 0 0, .int .i64 (zC).regs, .int .i64 (zC).attr, .int .i64 (zC).unif, .int .i64 (zC).vary] (by kernel_rfl) ?_
          | refine wpList_store_row rfl 26 (.tmp 2) (.tmp 23) rfl w.heap.size #[.int .i64 (zC).stage, .slice none 0 0, .int .i64 (zC).regs, .int .i64 (zC).attr, .int .i64 (zC).unif, .int .i64 (zC).vary] rfl rfl 26 _ (unhide HB0) size6 rfl (by simp [Value.oneCell']) ?_)
        exact bodyPost_ret (v := .tuple #[.agg #[.int .i64 (zC).stage, .slice none 0 0, .int .i64 (zC).regs, .int .i64 (zC).attr, .int .i64 (zC).unif, .int .i64 (zC).vary], .bool false]) (results_cellTmp Try.results6 _ _ w.heap.size 26 #[.int .i64 (zC).stage, .slice none 0 0, .int .i64 (zC).regs, .int .i64 (zC).attr, .int .i64 (zC).unif, .int .i64 (zC).vary] _ rfl (.bool false) rfl ((unhide HB0).rowC) Try.underlying26 rfl size6) rfl (unhide HBAD _ (extRow (unhide HX0) (Nat.le_refl _)) (unhide HDF))
  case pos =>
  obtain ⟨hg1, hg2, hg3⟩ := hg
  obtain ⟨N, hN⟩ : ∃ N, nI bs = N := ⟨_, rfl⟩
  have hlen : bs.length = 28 + 64 * N := by rw [← hN]; unfold nI; omega
  have HNI := hide hN
  clear hN
  have HDP := hide (fun h4 h5 => dec_split bs hg3 hg1 hg2 h4 h5)
  have HCA : Hid (codA bs = ⟨numA bs 4, numA bs 8, numA bs 12, numA bs 16, numA bs 20, insL bs 28 0 N⟩) := by rw [Hid, ← unhide HNI]; rfl
  rw [unhide HNI] at HDP HD
  have HNB0 := hide (fun p h => unhide HNB p h)
  have HJ4 := hide (fun j (hj : j < N) => jK_four bs j (by omega))
  have hlenI : (bs.length : Int) = 28 + 64 * (N : Int) := by omega
  have hsm : N ≤ 4096 := by omega
  have HLI := hide (fun j => insL_len bs 28 0 j)
  obtain ⟨n, hn⟩ : ∃ n, bs.length = n := ⟨_, rfl⟩
  rw [hn] at HN HNB hlenI hlc hg1 hg2 hg3 hlen ⊢
  clear hn
  have t1 : ¬ (n : Int) < 28 := by omega
  have t2 : ¬ (262172 : Int) < (n : Int) := by omega
  have m0 : ((n : Int) - 28).tmod 64 = 0 := by rw [Int.tmod_eq_emod_of_nonneg (by omega)]; omega
  have m1 : ((n : Int) - 28) % 64 = 0 := by omega
  have v0 : ((n : Int) - 28).tdiv 64 = (N : Int) := by rw [Int.tdiv_eq_ediv_of_nonneg (by omega)]; omega
  have v1 : ((n : Int) - 28) / 64 = (N : Int) := by omega
  have HS : OfZ w (w.alloc (.cells #[.int .i64 0, .slice none 0 0, .int .i64 0, .int .i64 0, .int .i64 0, .int .i64 0] 26)) := ⟨unhide HX0, unhide HB0⟩
  clear HB0 HX0 HNB0
  have HG := hide (And.intro hlenI hlen)
  clear hlenI hlen hg1 hg2 hg3
  go_enter Try.func6, Try.ntmps6
  go_wp2_with (go_at_call 9999)
  refine (unhide HN _ HS.1 _ (4) (by omega) (by have := unhide HG; omega)).mono ?_
  rintro e wz ⟨rfl, hxz⟩
  have HS2 := HS.ext hxz
  clear hxz HS
  have HS := HS2
  clear HS2
  go_wp2_with (go_at_call 9999)
  refine (unhide HN _ HS.1 _ (8) (by omega) (by have := unhide HG; omega)).mono ?_
  rintro e wz ⟨rfl, hxz⟩
  have HS2 := HS.ext hxz
  clear hxz HS
  have HS := HS2
  clear HS2
  go_wp2_with (go_at_call 9999)
  refine (unhide HN _ HS.1 _ (12) (by omega) (by have := unhide HG; omega)).mono ?_
  rintro e wz ⟨rfl, hxz⟩
  have HS2 := HS.ext hxz
  clear hxz HS
  have HS := HS2
  clear HS2
  go_wp2_with (go_at_call 9999)
  refine (unhide HN _ HS.1 _ (16) (by omega) (by have := unhide HG; omega)).mono ?_
  rintro e wz ⟨rfl, hxz⟩
  have HS2 := HS.ext hxz
  clear hxz HS
  have HS := HS2
  clear HS2
  go_wp2_with (go_at_call 9999)
  refine (unhide HN _ HS.1 _ (20) (by omega) (by have := unhide HG; omega)).mono ?_
  rintro e wz ⟨rfl, hxz⟩
  have HS2 := HS.ext hxz
  clear hxz HS
  have HS := HS2
  clear HS2
  obtain ⟨A4, hA4⟩ : ∃ x, x = numA bs 4 := ⟨_, rfl⟩
  obtain ⟨A8, hA8⟩ : ∃ x, x = numA bs 8 := ⟨_, rfl⟩
  obtain ⟨A12, hA12⟩ : ∃ x, x = numA bs 12 := ⟨_, rfl⟩
  obtain ⟨A16, hA16⟩ : ∃ x, x = numA bs 16 := ⟨_, rfl⟩
  obtain ⟨A20, hA20⟩ : ∃ x, x = numA bs 20 := ⟨_, rfl⟩
  rw [← hA4, ← hA8, ← hA12, ← hA16, ← hA20] at HCA ⊢
  clear hA4 hA8 hA12 hA16 hA20
  have HS3 : OfS w bs #[.int .i64 A4, .slice none 0 0, .int .i64 A8, .int .i64 A12, .int .i64 A16, .int .i64 A20] none 0 wz.heap.size [] (wz.alloc (.cells #[.int .i64 A4, .slice none 0 0, .int .i64 A8, .int .i64 A12, .int .i64 A16, .int .i64 A20] 26)) := ⟨HS.1.alloc _, HS.2.alloc _, Blk.new _ _ _, OI.nil _ _⟩
  obtain ⟨B4, hB4⟩ : ∃ B, B = wz.heap.size := ⟨_, rfl⟩
  have hBw : w.heap.size < B4 := by have := HS.2.lt; omega
  go_upto_region 4 with (first
    | refine wpList_buildTo rfl 26 _ rfl (some 34) rfl #[.int .i64 A4, .slice none 0 0, .int .i64 A8, .int .i64 A12, .int .i64 A16, .int .i64 A20] (by kernel_rfl) ?_
    | refine wpList_storeLast rfl 26 (.tmp 4) (.tmp 34) rfl _ wz.heap.size rfl rfl #[.int .i64 A4, .slice none 0 0, .int .i64 A8, .int .i64 A12, .int .i64 A16, .int .i64 A20] rfl 6 size6 rfl rfl (by simp [Value.oneCell']) ?_)
  rw [← hB4] at HS3 ⊢
  generalize wz.alloc (.cells #[.int .i64 A4, .slice none 0 0, .int .i64 A8, .int .i64 A12, .int .i64 A16, .int .i64 A20] 26) = wy at HS3 ⊢
  clear HS hB4
  have HS := HS3
  clear HS3
  go_wp2_with (go_at_call 9999)
  refine (unhide HN _ HS.1 _ (0) (by omega) (by have := unhide HG; omega)).mono ?_
  rintro e wz ⟨rfl, hxz⟩
  have HS2 := HS.ext hxz
  clear hxz HS
  have HS := HS2
  clear HS2
  by_cases q0 : numA bs 0 = 1128353872
  case neg =>
    have HDF : Hid (decB bs = false) := by rw [Hid, unhide HD, decide_eq_false q0]; simp
    have q1 : (numA bs 0 != 1128353872) = true := by simp [q0]
    clear q0
    generalize numA bs 0 = A0 at *
    go_wp2_with (first
      | refine wpList_buildTo rfl 26 _ rfl (some 47) rfl #[.int .i64 (zC).stage, .slice none 0 0, .int .i64 (zC).regs, .int .i64 (zC).attr, .int .i64 (zC).unif, .int .i64 (zC).vary] (by kernel_rfl) ?_
      | refine wpList_store_row rfl 26 (.tmp 2) (.tmp 47) rfl w.heap.size #[.int .i64 (zC).stage, .slice none 0 0, .int .i64 (zC).regs, .int .i64 (zC).attr, .int .i64 (zC).unif, .int .i64 (zC).vary] rfl rfl 26 _ HS.2.1 size6 rfl (by simp [Value.oneCell']) ?_)
    exact bodyPost_ret (v := .tuple #[.agg #[.int .i64 (zC).stage, .slice none 0 0, .int .i64 (zC).regs, .int .i64 (zC).attr, .int .i64 (zC).unif, .int .i64 (zC).vary], .bool false]) (results_cellTmp Try.results6 _ _ w.heap.size 26 #[.int .i64 (zC).stage, .slice none 0 0, .int .i64 (zC).regs, .int .i64 (zC).attr, .int .i64 (zC).unif, .int .i64 (zC).vary] _ rfl (.bool false) rfl (HS.2.1.rowC) Try.underlying26 rfl size6) rfl (unhide HBAD _ (extRow HS.1 (Nat.le_refl _)) (unhide HDF))
  case pos =>
  rw [q0]
  go_wp2_with (go_at_call 9999)
  refine (unhide HN _ HS.1 _ (24) (by omega) (by have := unhide HG; omega)).mono ?_
  rintro e wz ⟨rfl, hxz⟩
  have HS2 := HS.ext hxz
  clear hxz HS
  have HS := HS2
  clear HS2
  by_cases q2 : numA bs 24 = (N : Int)
  case neg =>
    have HDF : Hid (decB bs = false) := by rw [Hid, unhide HD, decide_eq_false q2]; simp
    have q1 : (numA bs 24 != (N : Int)) = true := by simp [q2]
    clear q2
    generalize numA bs 24 = A0 at *
    go_wp2_with (first
      | refine wpList_buildTo rfl 26 _ rfl (some 47) rfl #[.int .i64 (zC).stage, .slice none 0 0, .int .i64 (zC).regs, .int .i64 (zC).attr, .int .i64 (zC).unif, .int .i64 (zC).vary] (by kernel_rfl) ?_
      | refine wpList_store_row rfl 26 (.tmp 2) (.tmp 47) rfl w.heap.size #[.int .i64 (zC).stage, .slice none 0 0, .int .i64 (zC).regs, .int .i64 (zC).attr, .int .i64 (zC).unif, .int .i64 (zC).vary] rfl rfl 26 _ HS.2.1 size6 rfl (by simp [Value.oneCell']) ?_)
    exact bodyPost_ret (v := .tuple #[.agg #[.int .i64 (zC).stage, .slice none 0 0, .int .i64 (zC).regs, .int .i64 (zC).attr, .int .i64 (zC).unif, .int .i64 (zC).vary], .bool false]) (results_cellTmp Try.results6 _ _ w.heap.size 26 #[.int .i64 (zC).stage, .slice none 0 0, .int .i64 (zC).regs, .int .i64 (zC).attr, .int .i64 (zC).unif, .int .i64 (zC).vary] _ rfl (.bool false) rfl (HS.2.1.rowC) Try.underlying26 rfl size6) rfl (unhide HBAD _ (extRow HS.1 (Nat.le_refl _)) (unhide HDF))
  case pos =>
  rw [q2]
  have HDM := hide (unhide HDP q0 q2)
  clear HDP HD q0 q2 HBAD
  go_wp2
  go_loopw [5] (fun iv wr => ∃ j : Nat, j ≤ N ∧ iv = .int .i64 (((28 + 64 * j : Nat)) : Int) ∧ ∃ ai ci, OfS w bs #[.int .i64 A4, .slice ai (insL bs 28 0 j).length ci, .int .i64 A8, .int .i64 A12, .int .i64 A16, .int .i64 A20] ai ci B4 (insL bs 28 0 j) wr) (fun iv _ => N - ((intOf iv).toNat - 28) / 64)
  case atStart => exact ⟨0, Nat.zero_le _, rfl, none, 0, HS⟩
  case round =>
    clear HS
    obtain ⟨j, hj, rfl, ai, ci, HS⟩ := hrel
    have hll := unhide HLI j
    obtain ⟨M, hM⟩ : ∃ M, M = insL bs 28 0 j := ⟨_, rfl⟩
    rw [← hM] at HS hll
    rw [hll] at HS
    by_cases hlt : j < N
    · obtain ⟨q, hq⟩ : ∃ q, q = 28 + 64 * j := ⟨_, rfl⟩
      have hqn : q + 64 ≤ n := by have := unhide HG; omega
      have HQ := hide hq
      rw [← hq]
      have hqi : (q : Int) < (n : Int) := by omega
      clear hq
      go_wp2_with (go_at_call 9999)
      refine (unhide HN _ HS.1 _ (q) (by omega) (by omega)).mono ?_
      rintro e wz ⟨rfl, hxz⟩
      have HS2 := HS.ext hxz
      clear hxz HS
      have HS := HS2
      clear HS2
      go_wp2_with (go_at_call 9999)
      refine (unhide HN _ HS.1 _ (q + 4) (by omega) (by omega)).mono ?_
      rintro e wz ⟨rfl, hxz⟩
      have HS2 := HS.ext hxz
      clear hxz HS
      have HS := HS2
      clear HS2
      go_wp2_with (go_at_call 9999)
      refine (unhide HN _ HS.1 _ (q + 8) (by omega) (by omega)).mono ?_
      rintro e wz ⟨rfl, hxz⟩
      have HS2 := HS.ext hxz
      clear hxz HS
      have HS := HS2
      clear HS2
      go_wp2_with (go_at_call 9999)
      refine (unhide HN _ HS.1 _ (q + 12) (by omega) (by omega)).mono ?_
      rintro e wz ⟨rfl, hxz⟩
      have HS2 := HS.ext hxz
      clear hxz HS
      have HS := HS2
      clear HS2
      go_wp2_with (go_at_call 9999)
      refine (unhide HN _ HS.1 _ (q + 16) (by omega) (by omega)).mono ?_
      rintro e wz ⟨rfl, hxz⟩
      have HS2 := HS.ext hxz
      clear hxz HS
      have HS := HS2
      clear HS2
      go_wp2_with (go_at_call 9999)
      refine (unhide HN _ HS.1 _ (q + 20) (by omega) (by omega)).mono ?_
      rintro e wz ⟨rfl, hxz⟩
      have HS2 := HS.ext hxz
      clear hxz HS
      have HS := HS2
      clear HS2
      go_wp2_with (go_at_call 9999)
      refine (unhide HN _ HS.1 _ (q + 24) (by omega) (by omega)).mono ?_
      rintro e wz ⟨rfl, hxz⟩
      have HS2 := HS.ext hxz
      clear hxz HS
      have HS := HS2
      clear HS2
      go_wp2_with (go_at_call 9999)
      refine (unhide HN _ HS.1 _ (q + 28) (by omega) (by omega)).mono ?_
      rintro e wz ⟨rfl, hxz⟩
      have HS2 := HS.ext hxz
      clear hxz HS
      have HS := HS2
      clear HS2
      obtain ⟨G, hG⟩ : ∃ G, G = wz.heap.size := ⟨_, rfl⟩
      have hGw : B4 < G := by have := HS.2.2.1.lt; omega
      have HB : Blk (wz.alloc (.cells (insA (ofR [numA bs q, numA bs (q + 4), numA bs (q + 8), numA bs (q + 12), numA bs (q + 16), numA bs (q + 20), numA bs (q + 24), numA bs (q + 28), 0, 0, 0, 0, 0, 0, 0, 0])) 39)) G (insA (jK bs q 0)) 39 := by rw [hG, ← jK_zero]; exact Blk.new _ _ _
      have HS3 := HS.ext ((Ext.refl wz).alloc (.cells (insA (ofR [numA bs q, numA bs (q + 4), numA bs (q + 8), numA bs (q + 12), numA bs (q + 16), numA bs (q + 20), numA bs (q + 24), numA bs (q + 28), 0, 0, 0, 0, 0, 0, 0, 0])) 39))
      go_upto_region 10 with (first
        | refine wpList_buildTo rfl 39 _ rfl (some 85) rfl (insA (ofR [numA bs q, numA bs (q + 4), numA bs (q + 8), numA bs (q + 12), numA bs (q + 16), numA bs (q + 20), numA bs (q + 24), numA bs (q + 28), 0, 0, 0, 0, 0, 0, 0, 0])) (by kernel_rfl) ?_
        | refine wpList_storeLast rfl 39 (.tmp 6) (.tmp 85) rfl _ wz.heap.size rfl rfl (insA (ofR [numA bs q, numA bs (q + 4), numA bs (q + 8), numA bs (q + 12), numA bs (q + 16), numA bs (q + 20), numA bs (q + 24), numA bs (q + 28), 0, 0, 0, 0, 0, 0, 0, 0])) rfl 16 size16 rfl rfl (insA_one _) ?_)
      rw [← hG]
      generalize wz.alloc (.cells (insA (ofR [numA bs q, numA bs (q + 4), numA bs (q + 8), numA bs (q + 12), numA bs (q + 16), numA bs (q + 20), numA bs (q + 24), numA bs (q + 28), 0, 0, 0, 0, 0, 0, 0, 0])) 39) = wy at HS3 HB ⊢
      have HLT : Hid (∀ g, (Value.slice ai j ci).ownBlock = some g → g < G) := fun g hg => by
        have h9 := HS.2.2.2
        rw [hll] at h9
        have := (h9.lt g hg).2
        omega
      clear HS hG
      have HS := HS3
      clear HS3
      have HD2 := hide (And.intro HS HB)
      clear HS HB
      go_wp2
      go_loopw [86] (fun iv wq => ∃ k : Nat, k ≤ 4 ∧ iv = .int .i64 (k : Int) ∧ OfS w bs #[.int .i64 A4, .slice ai j ci, .int .i64 A8, .int .i64 A12, .int .i64 A16, .int .i64 A20] ai ci B4 M wq ∧ Blk wq G (insA (jK bs q k)) 39) (fun iv _ => 4 - (intOf iv).toNat)
      case atStart => exact ⟨0, by omega, rfl, (unhide HD2).1, (unhide HD2).2⟩
      case round =>
        clear HD2
        obtain ⟨k, hk, rfl, HS, HB⟩ := hrel
        by_cases hkt : k < 4
        · have hk4 : (k : Int) < 4 := by omega
          go_wp2_with (go_at_call 9999)
          refine (unhide HN _ HS.1 _ (q + 32 + 4 * k) (by omega) (by omega)).mono ?_
          rintro e wz ⟨rfl, hxz⟩
          have HS2 := HS.ext hxz
          have HB2 := HB.ext hxz
          clear hxz HS HB
          have HS := HS2
          have HB := HB2
          clear HS2 HB2
          have hra := unhide HNB (q + 32 + 4 * k) (by omega)
          have hcv : IntKind.u32.wrap (numA bs (q + 32 + 4 * k)) = numA bs (q + 32 + 4 * k) := by simp [IntKind.wrap, IntKind.bits, IntKind.signed]; omega
          have hsg : IntKind.i32.wrap (numA bs (q + 32 + 4 * k)) = sg (numA bs (q + 32 + 4 * k)) := rfl
          have ck := jcellM HB k hkt
          have fk := HB.free (8 + k)
          have HK2 := hide (jK_succ bs q k hkt)
          generalize numA bs (q + 32 + 4 * k) = X at *
          go_wp2_with (go_at_call 9999)
          have HS3 := HS.setG G (8 + k) (.int .i32 (sg X)) (by omega) (by omega) (unhide HLT)
          have HB3 := HB.set (8 + k) (.int .i32 (sg X))
          generalize wz.setCell ⟨G, 8 + k, none⟩ (.int .i32 (sg X)) = wa at HS3 HB3 ⊢
          clear HS HB ck fk hra hcv hsg
          refine (unhide HN _ HS3.1 _ (q + 48 + 4 * k) (by omega) (by omega)).mono ?_
          rintro e wb ⟨rfl, hxz⟩
          have HS := HS3.ext hxz
          have HB := HB3.ext hxz
          clear hxz HS3 HB3
          have ck := HB.cell (j12 (jK bs q k) k hkt _)
          have fk := HB.free (12 + k)
          generalize numA bs (q + 48 + 4 * k) = Y at *
          have HS4 := HS.setG G (12 + k) (.int .i64 Y) (by omega) (by omega) (unhide HLT)
          have HB4 := HB.set (12 + k) (.int .i64 Y)
          rw [unhide HK2] at HB4
          have D4 := hide (And.intro HS4 HB4)
          clear HS HB HS4 HB4
          go_wp2
          go_roundw
          case rel => exact ⟨k + 1, by omega, by go_num, (unhide D4).1, (unhide D4).2⟩
          case measure => simp [intOf]; omega
        · obtain rfl : k = 4 := by omega
          have hj4 := unhide HJ4 j hlt
          rw [← unhide HQ] at hj4
          rw [hj4] at HB
          have HSU := hide (insL_succ bs 28 0 j)
          generalize insX bs 28 0 j = x at *
          rw [← hM] at HSU
          clear hj4 hM
          obtain ⟨i16, hi16, hz16, hs16, hb16⟩ := info_all infoI
          have c1 : wr.cell? ⟨B4, 1, none⟩ = some (.slice ai j ci) := HS.2.2.1.cell rfl
          have D := hide (And.intro HS HB)
          clear HS HB
          have HIB : Hid (IR (wr.alloc (.cells (icells [x]).toArray 39)) (.slice (some ⟨wr.heap.size, 0, none⟩) [x].length [x].length) [x]) := IR.block wr [x] (by simp) (by simp)
          have HSa := (unhide D).1.ext ((Ext.refl wr).alloc (.cells (icells [x]).toArray 39))
          have hoi := HSa.2.2.2
          rw [hll] at hoi
          have HOI := hide hoi
          have HSS := hide HSa
          have hM1 : M.length + [x].length ≤ 1000000 := by rw [hll]; simp; omega
          have HM1 := hide hM1
          have hbz := HSa.1.size
          have HBZ := hide hbz
          clear hoi HSa hM1 hbz
          go_wp2_with (first
            | refine wpList_load_row rfl 39 (.tmp 6) rfl G rfl 39 (insA x) (0, 0) _ (unhide D).2 Try.underlying39 rfl size16 ?_
            | refine Go.wpList_buildSlice rfl 24 39 1 _ rfl (icells [x]).toArray i16 (.agg (insA zI)) Try.underlying24 hi16 hz16 (by rw [hs16]; decide) (by rw [hs16]; decide) (by rw [hs16]; kernel_rfl) ?_
            | (at_builtin; refine wpList_append_inss rfl (.tmp 113) (.tmp 115) rfl w.heap.size _ M [x] rfl (unhide HOI) _ _ rfl (unhide HIB) (unhide HM1) (unhide HBZ) ?_))
          have hoi := unhide HOI
          have HSa := unhide HSS
          intro v6 w2 hm2 hg
          have hxx : Ext w w2 := HSa.1.grown hg HSa.1.size (fun k e => (hoi.lt k e).1)
          have hz2 := HSa.2.1.grownO hg (hoi.neB HSa.2.1 (by decide))
          have hb2 := HSa.2.2.1.grownO hg (hoi.neB HSa.2.2.1 (by decide))
          rw [← unhide HSU] at hm2
          obtain ⟨am, cm, e6, _⟩ := hm2.shape
          subst e6
          have c2 : w2.cell? ⟨B4, 1, none⟩ = some (.slice ai j ci) := hb2.cell rfl
          have f2 := hb2.free 1
          obtain ⟨l1, hl1⟩ : ∃ l, l = (insL bs 28 0 (j + 1)).length := ⟨_, rfl⟩
          rw [← hl1] at hm2 ⊢
          have HL1 := hide hl1
          clear hl1
          have D5 := hide (show OfS w bs #[.int .i64 A4, .slice am l1 cm, .int .i64 A8, .int .i64 A12, .int .i64 A16, .int .i64 A20] am cm B4 (insL bs 28 0 (j + 1)) (w2.setCell ⟨B4, 1, none⟩ (.slice am l1 cm)) from ⟨extSet hxx (by omega), hz2.other (r := B4) 1 _ (by omega), hb2.set 1 (.slice am l1 cm), by rw [← unhide HL1]; exact hm2.kept9 (grownBy_set w2 B4 1 (.slice am l1 cm)) (hm2.neB hb2 (by decide))⟩)
          clear HSa hoi hm2 hg hxx hz2 hb2 D HIB HOI HSS HM1 HBZ HSU hi16 hz16 hs16 hb16 c1
          go_wp2
          go_roundw
          case rel =>
            refine ⟨j + 1, by omega, by rw [show (((28 + 64 * (j + 1) : Nat)) : Int) = (q : Int) + 64 by have := unhide HQ; omega], am, cm, ?_⟩
            rw [← unhide HL1]
            exact unhide D5
          case measure =>
            have := unhide HQ
            simp [intOf]
            omega
    · obtain rfl : j = N := by omega
      have hqn : ((28 + 64 * j : Nat) : Int) = (n : Int) := by have := unhide HG; omega
      rw [hqn]
      clear hqn
      go_upto_region 17 with fail
      refine wp_region_noPanic ?_
      refine wp_region_held_drew (S := fun wx => Ext w wx ∧ Blk wx B4 #[.int .i64 A4, .slice ai j ci, .int .i64 A8, .int .i64 A12, .int .i64 A16, .int .i64 A20] 26 ∧ OI wx w.heap.size (.slice ai M.length ci) M) (by kernel_rfl) ⟨HS.1.drew, HS.2.2.1.drewN 1, HS.2.2.2.ext ((Ext.refl _).drew)⟩ (fun HT => ?_)
      have HZ : Blk wr.drew w.heap.size #[.int .i64 0, .slice none 0 0, .int .i64 0, .int .i64 0, .int .i64 0, .int .i64 0] 26 := HS.2.1
      generalize wr.drew = wa at HT HZ ⊢
      clear HS
      refine wpAnyH_take (i := 0) (oi := { dst := some 118, op := Op.load _ (Operand.tmp 4), type := _, pos := _, after := _, guard := none }) (v := .agg #[.int .i64 A4, .slice ai j ci, .int .i64 A8, .int .i64 A12, .int .i64 A16, .int .i64 A20]) rfl (by kernel_rfl) (by kernel_rfl) (by kernel_rfl) (fun _ _ _ h => h) (yieldsIf_load_mid (by rfl) 26 (.tmp 4) rfl B4 0 rfl (#[.int .i64 A4, .slice ai j ci, .int .i64 A8, .int .i64 A12, .int .i64 A16, .int .i64 A20]).toList _ (fun wx hx => hx.2.1.rng) Try.underlying26 rfl size6) HT ?_
      simp only [Act.put, List.setIfInBounds_toArray, List.set_cons_zero, List.set_cons_succ]
      refine wpAnyH_take (i := 1) (oi := { dst := some 119, op := Op.load _ (Operand.tmp 4), type := _, pos := _, after := _, guard := none }) (v := .agg #[.int .i64 A4, .slice ai j ci, .int .i64 A8, .int .i64 A12, .int .i64 A16, .int .i64 A20]) rfl (by kernel_rfl) (by kernel_rfl) (by kernel_rfl) (fun _ _ _ h => h) (yieldsIf_load_mid (by rfl) 26 (.tmp 4) rfl B4 0 rfl (#[.int .i64 A4, .slice ai j ci, .int .i64 A8, .int .i64 A12, .int .i64 A16, .int .i64 A20]).toList _ (fun wx hx => hx.2.1.rng) Try.underlying26 rfl size6) HT ?_
      simp only [Act.put, List.setIfInBounds_toArray, List.set_cons_zero, List.set_cons_succ]
      refine wpAnyH_ready (rs := [2]) (by kernel_rfl) (by simp) (AllReadyH.cons (o := { dst := some 120, op := Op.call { callee := Callee.value (Operand.func _), args := #[Operand.tmp 119], argTypes := _ }, type := _, pos := _, after := _, guard := none }) rfl (fun KK hK => ?_) AllReadyH.nil)
      go_simp
      refine (refMay_any ⟨A4, A8, A12, A16, A20, M⟩ _ _ (by have := HT.2.2.ir; rw [hll] at this; exact this)).mono ?_
      rintro e ws ⟨rfl, hxs⟩
      have HT2 : _ ∧ _ ∧ _ := ⟨HT.1.trans hxs, HT.2.1.ext hxs, HT.2.2.ext hxs⟩
      have HZ2 := HZ.ext hxs
      clear hxs HT HZ
      have HT := HT2
      have HZ := HZ2
      clear HT2 HZ2
      refine hK.out _ _ HT (fun _ => ?_)
      clear hK KK
      try simp only [Act.put, List.setIfInBounds_toArray, List.set_cons_zero, List.set_cons_succ]
      refine wpAnyH_ready (rs := [3]) (by kernel_rfl) (by simp) (AllReadyH.cons (o := { dst := none, op := Op.store _ (Operand.tmp 2) (Operand.tmp 118), type := _, pos := _, after := _, guard := none }) rfl (fun KK hK => ?_) AllReadyH.nil)
      refine Eq.mpr (if_pos (by rfl)) ?_
      refine wp_store_row 26 (.tmp 2) (.tmp 118) rfl w.heap.size #[.int .i64 A4, .slice ai j ci, .int .i64 A8, .int .i64 A12, .int .i64 A16, .int .i64 A20] rfl rfl 26 _ HZ size6 rfl (by simp [Value.oneCell']) ?_
      have HT2 : _ ∧ _ ∧ _ := ⟨extRow (b := w.heap.size) (cs := #[.int .i64 A4, .slice ai j ci, .int .i64 A8, .int .i64 A12, .int .i64 A16, .int .i64 A20]) HT.1 (by omega), HT.2.1.rowO (r := w.heap.size) (cs' := #[.int .i64 A4, .slice ai j ci, .int .i64 A8, .int .i64 A12, .int .i64 A16, .int .i64 A20]) (by omega), HT.2.2.kept9 (grownBy_row _ w.heap.size #[.int .i64 A4, .slice ai j ci, .int .i64 A8, .int .i64 A12, .int .i64 A16, .int .i64 A20]) (HT.2.2.neB HZ (by decide))⟩
      have HZ2 := HZ.rowC (cs' := #[.int .i64 A4, .slice ai j ci, .int .i64 A8, .int .i64 A12, .int .i64 A16, .int .i64 A20])
      clear HT HZ
      have HT := HT2
      have HZ := HZ2
      clear HT2 HZ2
      refine hK.out _ _ HT (fun _ => ?_)
      clear hK KK
      try simp only [Act.put, List.setIfInBounds_toArray, List.set_cons_zero, List.set_cons_succ]
      refine wpAnyH_take (i := 4) (oi := { dst := some 3, op := Op.assign (Operand.tmp 120), type := _, pos := _, after := _, guard := none }) (v := .bool (mayP ⟨A4, A8, A12, A16, A20, M⟩)) rfl (by kernel_rfl) (by kernel_rfl) (by kernel_rfl) (fun _ _ _ h => h) (Or.inl ⟨by rfl, fun _ _ => rfl⟩) HT ?_
      simp only [Act.put, List.setIfInBounds_toArray, List.set_cons_zero, List.set_cons_succ]
      refine wpAnyH_done (by kernel_rfl) ?_ _
      refine NoPanic.normal ?_
      go_wp2
      refine bodyPost_ret (v := .tuple #[.agg #[.int .i64 A4, .slice ai j ci, .int .i64 A8, .int .i64 A12, .int .i64 A16, .int .i64 A20], .bool (mayP ⟨A4, A8, A12, A16, A20, M⟩)]) (results_cellTmp Try.results6 _ _ w.heap.size 26 #[.int .i64 A4, .slice ai j ci, .int .i64 A8, .int .i64 A12, .int .i64 A16, .int .i64 A20] _ rfl (.bool (mayP ⟨A4, A8, A12, A16, A20, M⟩)) rfl HZ Try.underlying26 rfl size6) rfl ?_
      have hcod : codA bs = ⟨A4, A8, A12, A16, A20, M⟩ := by rw [unhide HCA, hM]
      have hir := HT.2.2.ir
      refine ⟨HT.1, ⟨A4, A8, A12, A16, A20, M⟩, ai, ci, ?_, fun _ => ⟨hcod.symm, hir⟩⟩
      rw [unhide HDM, hcod]
      simp only [hll]
end Go.Proofs.Ytfoffnbkfnbglaa

/-
  Codes and their bytes, plainly: what was encoded is decoded, and the other way round.
-/
namespace Go.Proofs.Ytfoffnbkfnbglaa
open Go.RowKit
set_option linter.unusedVariables false
set_option linter.unusedSimpArgs false

theorem num_low (x : Int) : numOf (low x 4) = x % 4294967296 := by
  simp only [low, numOf]
  omega
theorem low_of_num : ∀ (l : List Int), Byt l → low (numOf l) l.length = l
  | [], _ => rfl
  | c :: r, h => by
    have hc := h c (by simp)
    have ih := low_of_num r (fun x hx => h x (by simp [hx]))
    rw [List.length_cons, low, numOf]
    have e1 : (c + 256 * numOf r) % 256 = c := by omega
    have e2 : (c + 256 * numOf r) / 256 = numOf r := by omega
    rw [e1, e2, ih]
theorem low_len4 (x : Int) : (low x 4).length = 4 := by simp [low]
theorem bytL_at : ∀ (l : List Int) (i : Nat) (h : i < l.length), ((bytL l).drop (4 * i)).take 4 = low l[i] 4
  | x :: r, 0, _ => by
    have e : bytL (x :: r) = low x 4 ++ bytL r := rfl
    have h4 := List.take_left (l₁ := low x 4) (l₂ := bytL r)
    rw [low_len4] at h4
    rw [e, Nat.mul_zero, List.drop_zero, h4]
    simp
  | x :: r, i + 1, h => by
    have e : bytL (x :: r) = low x 4 ++ bytL r := rfl
    have ih := bytL_at r i (by simpa using h)
    rw [e, show 4 * (i + 1) = (low x 4).length + 4 * i by rw [low_len4]; omega, ← List.drop_drop, List.drop_left, ih]
    simp
theorem numA_bytL (l : List Int) (i : Nat) (h : i < l.length) (h0 : 0 ≤ l[i]) (h1 : l[i] < 4294967296) : numA (bytL l) (4 * i) = l[i] := by
  unfold numA
  rw [bytL_at l i h, num_low]
  omega
/-- The raw numbers of a code. -/
def rawL (C : Cod) : List Int := hdL C C.ins.length ++ C.ins.flatMap inL
theorem numL_raw (C : Cod) : numL C = (rawL C).map lo32 := by
  unfold numL numK rawL
  rw [List.take_length]
theorem flat_len (L : List (Nat → Int)) : (L.flatMap inL).length = 16 * L.length := by
  induction L with
  | nil => rfl
  | cons x r ih => rw [List.flatMap_cons, List.length_append, ih]; simp [inL]; omega
theorem flat_at : ∀ (L : List (Nat → Int)) (j i : Nat) (hj : j < L.length) (hi : i < 16), (L.flatMap inL)[16 * j + i]? = some (L[j] i)
  | x :: r, 0, i, _, hi => by
    rw [List.flatMap_cons, List.getElem?_append_left (by simp [inL]; omega)]
    rcases (by omega : i = 0 ∨ i = 1 ∨ i = 2 ∨ i = 3 ∨ i = 4 ∨ i = 5 ∨ i = 6 ∨ i = 7 ∨ i = 8 ∨ i = 9 ∨ i = 10 ∨ i = 11 ∨ i = 12 ∨ i = 13 ∨ i = 14 ∨ i = 15) with rfl | rfl | rfl | rfl | rfl | rfl | rfl | rfl | rfl | rfl | rfl | rfl | rfl | rfl | rfl | rfl <;> rfl
  | x :: r, j + 1, i, h, hi => by
    have ih := flat_at r j i (by simpa using h) hi
    have el : (inL x).length = 16 := rfl
    rw [List.flatMap_cons, List.getElem?_append_right (by omega), el, show 16 * (j + 1) + i - 16 = 16 * j + i by omega, ih]
    simp
theorem raw_len (C : Cod) : (rawL C).length = 7 + 16 * C.ins.length := by
  unfold rawL
  rw [List.length_append, flat_len]
  rfl
theorem numA_bytP (C : Cod) (i : Nat) (x : Int) (h : (rawL C)[i]? = some x) : numA (bytP C) (4 * i) = lo32 x := by
  obtain ⟨hi, e⟩ := List.getElem?_eq_some_iff.1 h
  unfold bytP
  rw [numL_raw]
  have hl : i < ((rawL C).map lo32).length := by simpa using hi
  have hx : ((rawL C).map lo32)[i] = lo32 x := by simp [e]
  have := u32_in x
  rw [numA_bytL _ i hl (by rw [hx]; omega) (by rw [hx]; omega), hx]
theorem raw_ins (C : Cod) (j i : Nat) (hj : j < C.ins.length) (hi : i < 16) : (rawL C)[7 + 16 * j + i]? = some (C.ins[j] i) := by
  unfold rawL
  rw [List.getElem?_append_right (by simp [hdL]; omega), show 7 + 16 * j + i - (hdL C C.ins.length).length = 16 * j + i by simp [hdL]; omega]
  exact flat_at _ j i hj hi
theorem raw_hd (C : Cod) (i : Nat) (hi : i < 7) : (rawL C)[i]? = (hdL C C.ins.length)[i]? := by
  unfold rawL
  rw [List.getElem?_append_left (by simp [hdL]; omega)]
theorem sg_lo32 (x : Int) (h0 : -2147483648 ≤ x) (h1 : x ≤ 2147483647) : sg (lo32 x) = x := by
  unfold sg lo32
  simp [IntKind.wrap, IntKind.bits, IntKind.signed]
  omega
theorem lo32_sg (x : Int) (h0 : 0 ≤ x) (h1 : x < 4294967296) : lo32 (sg x) = x := by
  unfold sg lo32
  simp [IntKind.wrap, IntKind.bits, IntKind.signed]
  omega
theorem lo32_id (x : Int) (h0 : 0 ≤ x) (h1 : x < 4294967296) : lo32 x = x := by unfold lo32; omega

theorem args_pos {f b : Int} (h : 0 < argsP f b) : 1 ≤ f ∧ f ≤ 35 ∧ 1 ≤ b ∧ b ≤ 3 := by
  unfold argsP at h
  repeat' split at h
  all_goals omega
set_option maxHeartbeats 4000000 in
/-- The numbers of an instruction that may be are small, Imm's aside. -/
theorem may_small {C : Cod} {n k : Nat} {I : Nat → Int} (h : insB C n k I = true) (hn : n ≤ 4096) (hh : headB C = true) : ∀ i, i < 16 → ¬ (8 ≤ i ∧ i < 12) → 0 ≤ I i ∧ I i < 4294967296 := by
  have hg : C.regs ≤ 1024 ∧ C.attr ≤ 8 ∧ C.unif ≤ 32 ∧ C.vary ≤ 4 := by
    unfold headB at hh
    repeat' split at hh
    all_goals simp [inB_iff] at hh
    all_goals omega
  simp only [insB, Bool.and_eq_true] at h
  obtain ⟨h1, h2, h3⟩ := h
  rw [sameI_iff] at h1
  have z : ∀ i, i < 16 → keeps I i = false → I i = 0 := fun i hi hk => by rw [h1 i hi, justP, hk]; rfl
  have z1 := z 1 (by omega)
  have z2 := z 2 (by omega)
  have z3 := z 3 (by omega)
  have z4 := z 4 (by omega)
  have z5 := z 5 (by omega)
  have z6 := z 6 (by omega)
  have z7 := z 7 (by omega)
  have z12 := z 12 (by omega)
  have z13 := z 13 (by omega)
  have z14 := z 14 (by omega)
  have z15 := z 15 (by omega)
  clear z h1
  simp only [keeps] at z1 z2 z3 z4 z5 z6 z7 z12 z13 z14 z15
  simp only [rgsB, Bool.and_eq_true, readsP, writI] at h2
  unfold fldB loadB storB at h3
  obtain ⟨h4, h5⟩ := h2
  have ho : I 0 = 1 ∨ I 0 = 2 ∨ I 0 = 3 ∨ I 0 = 4 ∨ I 0 = 5 ∨ I 0 = 6 ∨ I 0 = 7 ∨ I 0 = 8 ∨ I 0 = 9 ∨ I 0 = 10 ∨ I 0 = 11 ∨ I 0 = 12 := by
    repeat' split at h3
    all_goals first | omega | cases h3
  have H : (0 ≤ I 1 ∧ I 1 < 4294967296) ∧ (0 ≤ I 2 ∧ I 2 < 4294967296) ∧ (0 ≤ I 3 ∧ I 3 < 4294967296) ∧ (0 ≤ I 4 ∧ I 4 < 4294967296) ∧ (0 ≤ I 5 ∧ I 5 < 4294967296) ∧ (0 ≤ I 6 ∧ I 6 < 4294967296) ∧ (0 ≤ I 7 ∧ I 7 < 4294967296) ∧ (0 ≤ I 12 ∧ I 12 < 4294967296) ∧ (0 ≤ I 13 ∧ I 13 < 4294967296) ∧ (0 ≤ I 14 ∧ I 14 < 4294967296) ∧ (0 ≤ I 15 ∧ I 15 < 4294967296) := by
    rcases ho with e | e | e | e | e | e | e | e | e | e | e | e
    case inr.inr.inr.inr.inl =>
      simp [e, wrB, cntB] at h3 h5 z1 z2 z3 z4 z5 z6 z7 z12 z13 z14 z15 h4
      obtain ⟨ha, hc⟩ := h3
      have hp := args_pos ha
      have hl := argsP_le (I 1) (I 2)
      rw [inB_iff] at h5
      have e5 : 0 ≤ I 5 ∧ I 5 < 1024 := by
        have := h4 (I 5) (by rw [List.mem_take_iff_getElem]; exact ⟨0, by simp; omega, rfl⟩)
        rw [inB_iff] at this
        omega
      have e6 : 0 ≤ I 6 ∧ I 6 < 1024 := by
        by_cases h9 : 2 ≤ argsP (I 1) (I 2)
        · have := h4 (I 6) (by rw [List.mem_take_iff_getElem]; exact ⟨1, by simp; omega, rfl⟩)
          rw [inB_iff] at this
          omega
        · have := z6 (by omega)
          omega
      have e7 : 0 ≤ I 7 ∧ I 7 < 1024 := by
        by_cases h9 : 3 ≤ argsP (I 1) (I 2)
        · have := h4 (I 7) (by rw [List.mem_take_iff_getElem]; exact ⟨2, by simp; omega, rfl⟩)
          rw [inB_iff] at this
          omega
        · have := z7 (by omega)
          omega
      omega
    all_goals
      simp [e, wrB, cntB, plcB, baseB, inB_iff] at h3 h4 h5 z1 z2 z3 z4 z5 z6 z7 z12 z13 z14 z15
      try (repeat' split at h3)
      all_goals (try simp [inB_iff] at h3)
      all_goals omega
  intro i hi hn8
  rcases (by omega : i = 0 ∨ i = 1 ∨ i = 2 ∨ i = 3 ∨ i = 4 ∨ i = 5 ∨ i = 6 ∨ i = 7 ∨ i = 12 ∨ i = 13 ∨ i = 14 ∨ i = 15) with rfl | rfl | rfl | rfl | rfl | rfl | rfl | rfl | rfl | rfl | rfl | rfl
  · omega
  all_goals omega

theorem headB_in {C : Cod} (h : headB C = true) : (1 ≤ C.stage ∧ C.stage ≤ 2) ∧ (0 ≤ C.regs ∧ C.regs ≤ 1024) ∧ (0 ≤ C.attr ∧ C.attr ≤ 8) ∧ (0 ≤ C.unif ∧ C.unif ≤ 32) ∧ (0 ≤ C.vary ∧ C.vary ≤ 4) := by
  unfold headB at h
  repeat' split at h
  all_goals simp [inB_iff] at h
  all_goals omega
/-- What was encoded is decoded. -/
theorem enc_dec (C : Cod) (hm : mayP C = true) (hok : ∀ I ∈ C.ins, OkI I) : decB (bytP C) = true ∧ sameC C (codA (bytP C)) = true := by
  have hlen := bytP_len C
  have hm0 := hm
  simp only [mayP, Bool.and_eq_true, decide_eq_true_eq] at hm
  obtain ⟨hh, hn, ht⟩ := hm
  obtain ⟨s0, s1, s2, s3, s4⟩ := headB_in hh
  have hnI : nI (bytP C) = C.ins.length := by unfold nI; rw [hlen]; omega
  have hd : ∀ i (x : Int), (hdL C C.ins.length)[i]? = some x → i < 7 → 0 ≤ x → x < 4294967296 → numA (bytP C) (4 * i) = x := fun i x h hi h0 h1 => by
    rw [numA_bytP C i x (by rw [raw_hd C i hi]; exact h), lo32_id x h0 h1]
  have n0 := hd 0 1128353872 rfl (by omega) (by omega) (by omega)
  have n1 := hd 1 C.stage rfl (by omega) (by omega) (by omega)
  have n2 := hd 2 C.regs rfl (by omega) (by omega) (by omega)
  have n3 := hd 3 C.attr rfl (by omega) (by omega) (by omega)
  have n4 := hd 4 C.unif rfl (by omega) (by omega) (by omega)
  have n5 := hd 5 C.vary rfl (by omega) (by omega) (by omega)
  have n6 := hd 6 (C.ins.length : Int) rfl (by omega) (by omega) (by omega)
  have hs : sameC C (codA (bytP C)) = true := by
    rw [sameC_iff]
    refine ⟨n1.symm, n2.symm, n3.symm, n4.symm, n5.symm, ?_, fun k hk i hi => ?_⟩
    · show C.ins.length = (insL (bytP C) 28 0 (nI (bytP C))).length
      rw [insL_len, hnI]
    · show (C.ins.getD k zI) i = ((insL (bytP C) 28 0 (nI (bytP C))).getD k zI) i
      rw [hnI]
      have e1 : (insL (bytP C) 28 0 C.ins.length).getD k zI = insX (bytP C) 28 0 k := by simp [insL, hk]
      have e2 : C.ins.getD k zI = C.ins[k] := by simp [hk]
      have h2 := mayTo_at ht hk
      rw [e2] at h2
      have hsm := may_small h2 hn hh i hi
      have ho := (hok C.ins[k] (List.getElem_mem hk)).2.1
      rw [e1, e2, insX_at _ k i hi (by rw [hlen]; omega), show 28 + 64 * k + 4 * i = 4 * (7 + 16 * k + i) by omega, numA_bytP C _ _ (raw_ins C k i hk hi)]
      split
      · have h9 := ho (i - 8) (by omega)
        rw [show 8 + (i - 8) = i by omega] at h9
        rw [sg_lo32 _ h9.1 h9.2]
      · have h9 := hsm (by assumption)
        rw [lo32_id _ h9.1 h9.2]
  refine ⟨?_, hs⟩
  unfold decB
  rw [← may_congr _ _ hs, hm0, hlen, hnI]
  have n0' : numA (bytP C) 0 = 1128353872 := n0
  have n6' : numA (bytP C) 24 = (C.ins.length : Int) := n6
  have a1 : 28 + 64 * C.ins.length ≤ 262172 := by omega
  have a2 : 28 ≤ 28 + 64 * C.ins.length := by omega
  have a3 : (28 + 64 * C.ins.length - 28) % 64 = 0 := by omega
  rw [decide_eq_true a1, decide_eq_true a2, decide_eq_true a3, decide_eq_true n0', decide_eq_true n6']
  rfl
theorem numA_in (bs : List Int) (p : Nat) (hB : Byt bs) : 0 ≤ numA bs p ∧ numA bs p < 4294967296 := by
  have h : ∀ l : List Int, l.length ≤ 4 → Byt l → 0 ≤ numOf l ∧ numOf l < 4294967296 := by
    intro l hl hb
    match l, hl, hb with
    | [], _, _ => simp [numOf]
    | [a], _, hb => have := hb a (by simp); simp [numOf]; omega
    | [a, b], _, hb => have := hb a (by simp); have := hb b (by simp); simp [numOf]; omega
    | [a, b, c], _, hb => have := hb a (by simp); have := hb b (by simp); have := hb c (by simp); simp [numOf]; omega
    | [a, b, c, d], _, hb => have := hb a (by simp); have := hb b (by simp); have := hb c (by simp); have := hb d (by simp); simp [numOf]; omega
  exact h _ (by simp; omega) (fun x hx => hB x (List.mem_of_mem_drop (List.mem_of_mem_take hx)))
theorem bytL_num : ∀ (m : Nat) (bs : List Int), bs.length = 4 * m → Byt bs → bytL ((List.range m).map fun i => numA bs (4 * i)) = bs
  | 0, bs, h, _ => by
    have : bs = [] := by simpa using h
    subst this
    rfl
  | m + 1, bs, h, hB => by
    have ih := bytL_num m (bs.drop 4) (by simp; omega) (fun x hx => hB x (List.mem_of_mem_drop hx))
    rw [List.range_succ_eq_map, List.map_cons, List.map_map]
    have e : (List.map ((fun i => numA bs (4 * i)) ∘ Nat.succ) (List.range m)) = (List.range m).map fun i => numA (bs.drop 4) (4 * i) := by
      apply List.map_congr_left
      intro i _
      simp only [Function.comp, numA, List.drop_drop]
      rw [show 4 + 4 * i = 4 * i.succ by omega]
    rw [e]
    show low (numA bs (4 * 0)) 4 ++ bytL _ = bs
    rw [ih]
    have h4 := low_of_num (bs.take 4) (fun x hx => hB x (List.mem_of_mem_take hx))
    rw [List.length_take, show min 4 bs.length = 4 by omega] at h4
    unfold numA
    rw [Nat.mul_zero, List.drop_zero, h4, List.take_append_drop]
/-- What was decoded is encoded. -/
theorem dec_enc (bs : List Int) (hB : Byt bs) (hd : decB bs = true) : bytP (codA bs) = bs := by
  unfold decB at hd
  simp only [Bool.and_eq_true, decide_eq_true_eq] at hd
  obtain ⟨h1, h2, h3, h4, h5, h6⟩ := hd
  have hn : bs.length = 28 + 64 * nI bs := by unfold nI; omega
  have hl : (codA bs).ins.length = nI bs := insL_len _ _ _ _
  have e : (rawL (codA bs)).map lo32 = (List.range (7 + 16 * nI bs)).map fun i => numA bs (4 * i) := by
    apply List.ext_getElem?
    intro i
    by_cases hi : i < 7 + 16 * nI bs
    · rw [List.getElem?_map, List.getElem?_map, List.getElem?_range hi, Option.map_some]
      by_cases h7 : i < 7
      · rw [raw_hd _ i h7, hl]
        rcases (by omega : i = 0 ∨ i = 1 ∨ i = 2 ∨ i = 3 ∨ i = 4 ∨ i = 5 ∨ i = 6) with rfl | rfl | rfl | rfl | rfl | rfl | rfl
        · show some (lo32 1128353872) = some (numA bs 0)
          rw [h4]; rfl
        · exact congrArg some (lo32_id (numA bs 4) (numA_in bs 4 hB).1 (numA_in bs 4 hB).2)
        · exact congrArg some (lo32_id (numA bs 8) (numA_in bs 8 hB).1 (numA_in bs 8 hB).2)
        · exact congrArg some (lo32_id (numA bs 12) (numA_in bs 12 hB).1 (numA_in bs 12 hB).2)
        · exact congrArg some (lo32_id (numA bs 16) (numA_in bs 16 hB).1 (numA_in bs 16 hB).2)
        · exact congrArg some (lo32_id (numA bs 20) (numA_in bs 20 hB).1 (numA_in bs 20 hB).2)
        · show some (lo32 (nI bs : Int)) = some (numA bs 24)
          rw [h5, lo32_id _ (by omega) (by omega)]
      · have hj : (i - 7) / 16 < nI bs := by omega
        have ei : i = 7 + 16 * ((i - 7) / 16) + (i - 7) % 16 := by omega
        have hr := raw_ins (codA bs) ((i - 7) / 16) ((i - 7) % 16) (by rw [hl]; exact hj) (by omega)
        rw [← ei] at hr
        rw [hr, Option.map_some]
        have ex : (codA bs).ins[(i - 7) / 16]'(by rw [hl]; exact hj) = insX bs 28 0 ((i - 7) / 16) := by simp [codA, insL]
        rw [ex, insX_at bs _ _ (by omega) (by omega), show 28 + 64 * ((i - 7) / 16) + 4 * ((i - 7) % 16) = 4 * i by omega]
        have hin := numA_in bs (4 * i) hB
        split
        · rw [lo32_sg _ hin.1 hin.2]
        · rw [lo32_id _ hin.1 hin.2]
    · rw [List.getElem?_eq_none (by rw [List.length_map, raw_len, hl]; omega), List.getElem?_eq_none (by simp; omega)]
  unfold bytP
  rw [numL_raw, e]
  exact bytL_num _ bs (by omega) hB
/-- A byte less or more is nothing. -/
theorem dec_other (C : Cod) (bs : List Int) (hn : C.ins.length ≤ 4096) (h24 : 28 ≤ bs.length → numA bs 24 = (C.ins.length : Int)) (hl : bs.length ≠ 28 + 64 * C.ins.length) : decB bs = false := by
  cases h : decB bs with
  | false => rfl
  | true =>
    unfold decB at h
    simp only [Bool.and_eq_true, decide_eq_true_eq] at h
    obtain ⟨h1, h2, h3, h4, h5, h6⟩ := h
    have := h24 h2
    unfold nI at h5
    omega
end Go.Proofs.Ytfoffnbkfnbglaa

/-
  Codes: helpers of the laws that hold bytes and codes against the document's.
-/
namespace Go.Proofs.Ytfoffnbkfnbglaa
open Go.RowKit
set_option linter.unusedVariables false
set_option linter.unusedSimpArgs false

section
variable {P : Program} {w : World} {ops : Array Oper} {rest : List Oper} {o : Oper} {a : Act} {Q : Exit → Act → World → Prop}
theorem wpList_load_row_wantC (hw : Region.wanted o (yielded ops a.tmps) = true) (ty : TypeId) (x : Operand) (ho : o.op = .load ty x)
    (g : Nat) (hx : a.eval x = .pointer (some ⟨g, 0, none⟩)) (t : TypeId) (cs : Array Value) (fr : Nat × Nat) (d : TypeDesc) (hg : w.heap[g]? = some (.cells cs t fr))
    (hu : P.underlying ty = some d) (hd : (match d with | .struct _ | .array _ _ => true | _ => false) = true) (hi : (P.info? ty).map (·.size) = some cs.size)
    (h : wpList P ops Q rest (a.put o.dst (.agg cs)) w) : wpList P ops Q (o :: rest) a w :=
  BigFrame.wpList_want hw fun _ hK => wp_load_row ty x ho g hx t cs fr d hg hu hd hi (hK _ _ h)
end
theorem few_readB {w : World} {b : Nat} {am : Option Addr} {cm : Nat} {L : List (Nat → Int)} (h : OI w b (.slice am (L.length + 1) cm) (L ++ [i77])) : IR w (.slice am L.length cm) L := by
  have h2 := h.ir.take L.length (by simp)
  simpa using h2
def FewR (F : Cod) (wx : World) (e : Ending) (w' : World) : Prop := ∃ am cm, e = .returned (.agg #[.int .i64 (F).stage, .slice am F.ins.length cm, .int .i64 (F).regs, .int .i64 (F).attr, .int .i64 (F).unif, .int .i64 (F).vary]) ∧ OI w' wx.heap.size (.slice am (F.ins.length + 1) cm) (F.ins ++ [i77]) ∧ Ext wx w'
theorem dec_may {bs : List Int} (h : decB bs = true) : mayP (codA bs) = true := by
  unfold decB at h
  simp only [Bool.and_eq_true] at h
  exact h.2.2.2.2.2
theorem codA_ok (bs : List Int) (hB : Byt bs) : ∀ I ∈ (codA bs).ins, OkI I := by
  intro I hI
  simp only [codA, insL, List.mem_map, List.mem_range] at hI
  obtain ⟨j, _, rfl⟩ := hI
  have hr := fun k => rdV_in bs (insS bs 28 0 j).1 (insS bs 28 0 j).2 k hB
  refine ⟨fun k hk => ?_, fun k hk => ?_, fun k hk => ?_⟩
  · have := hr k
    simp only [insX, ofV]
    rw [if_neg (by omega)]
    omega
  · simp only [insX, ofV]
    rw [if_pos (by omega)]
    unfold sg
    simp [IntKind.wrap, IntKind.bits, IntKind.signed]
    omega
  · have := hr (12 + k)
    simp only [insX, ofV]
    rw [if_neg (by omega)]
    omega
theorem bytP_byt (C : Cod) : Byt (bytP C) := bytL_byt _
theorem infoU8C : (Try.prog.info? 5).map (fun i => (i.zero, i.size, i.bytes)) = some (some (.int .u8 0), 1, 1) := by kernel_rfl
theorem own_ext {k : IntKind} {w w' : World} {base : Nat} {e : TypeId} {v : Value} {xs : List Int} (h : Own k w base e v xs) (hx : Ext w w') : Own k w' base e v xs := by
  refine World.ownsRow.kept h (extG hx none) ?_
  cases v.ownBlock <;> simp
theorem str_ofC (ao : Option Addr) (n cap : Nat) (xs : List Int) (w : World) (hr : Row .u8 w (.slice ao n cap) xs) (hl : n = xs.length) : (convert 22 9 (.slice ao n cap)).run Try.prog w = .ok (.string (strOfNums xs)) w := by
  subst hl
  rcases hr with ⟨rfl, ao', cap', hv, _⟩ | ⟨hne, b, off, cap', hv, _, _, hc⟩
  · cases hv
    exact run_convert_bytes_zero w 22 5 Try.underlying22 Try.underlying5 ao cap 9 Try.underlying9
  · cases hv
    exact run_convert_bytes_arg (P := Try.prog) w 22 5 Try.underlying22 Try.underlying5 b off xs.length cap xs rfl hc 9 Try.underlying9
theorem equal_sameC (ao ap : Option Addr) (cap cbp : Nat) (xs : List Int) (w : World) (hr : Row .u8 w (.slice ao xs.length cap) xs) (hs : Row .u8 w (.slice ap xs.length cbp) xs) :
    Calls Try.prog 8 #[.slice ao xs.length cap, .slice ap xs.length cbp] w fun e w' => e = .returned (.bool true) ∧ w' = w := by
  have h1 := str_ofC ao xs.length cap xs w hr rfl
  have h2 := str_ofC ap xs.length cbp xs w hs rfl
  generalize strOfNums xs = s at *
  clear hr hs
  go_enter Try.func8, Try.ntmps8
  go_wp2
  go_ret
  exact ⟨by simp, rfl⟩

theorem OI.each {w : World} {base n cap : Nat} {ao : Option Addr} {L : List (Nat → Int)} (h : OI w base (.slice ao n cap) L) : ∀ i, i < L.length → ∃ g, ao = some ⟨g, 0, none⟩ ∧ base ≤ g ∧ g < w.heap.size ∧ w.there g (i * 16) 16 := by
  intro i hi
  rcases h.2 with ⟨_, h0⟩ | ⟨g, cp, cur, e, hb, hg, hnc, hcm, hcs, _⟩
  · omega
  · refine ⟨g, (Value.slice.inj e).1, hb, (Array.getElem?_eq_some_iff.1 hg).1, fun j hj => ?_⟩
    have hc : i * 16 + j < cur.size := by rw [hcs]; omega
    have hB : Blk w g cur 39 := hg
    refine ⟨?_, hB.free _⟩
    rw [hB.cell (i := i * 16 + j) (v := cur[i * 16 + j]) (by simp [hc])]
    rfl
theorem sameC_refl (C : Cod) : sameC C C = true := by rw [sameC_iff]; exact ⟨rfl, rfl, rfl, rfl, rfl, rfl, fun _ _ _ _ => rfl⟩
theorem Blk.cellsO {w : World} {b r o : Nat} {cs : Array Value} {t : TypeId} (vs : List Value) (h : Blk w b cs t) (hne : b ≠ r) : Blk (w.setCells r o vs) b cs t := (World.heap_setCells_other w r o vs h.lt hne).trans h
theorem ir_none0 (w : World) : IR w (.slice none 0 0) [] := ⟨none, 0, rfl, fun _ => rfl, Nat.le_refl _, Nat.zero_le _, fun i hi => by simp at hi⟩
theorem thereX {w w' : World} {g o n : Nat} (h : w.there g o n) (hx : Ext w w') : w'.there g o n := fun j hj => by
  obtain ⟨h1, h2⟩ := h j hj
  have hb : g < w.heap.size := by
    cases hc : w.cell? ⟨g, o + j, none⟩ with
    | none => rw [hc] at h1; cases h1
    | some v => exact World.block_lt_of_cell? w ⟨g, o + j, none⟩ hc
  have hh := hx.block g hb
  refine ⟨?_, ?_⟩
  · rw [World.cell?_of_block (w := w) hh]; exact h1
  · have : w'.frozen? ⟨g, o + j, none⟩ = w.frozen? ⟨g, o + j, none⟩ := by simp only [World.frozen?, hh]
    rw [this]; exact h2
theorem Own.addr9 {k : IntKind} {w : World} {base : Nat} {e : TypeId} {ao : Option Addr} {n cap : Nat} {xs : List Int} (h : Own k w base e (.slice ao n cap) xs) (hne : 0 < xs.length) : ∃ g, ao = some ⟨g, 0, none⟩ ∧ base ≤ g := by
  rcases h.2 with ⟨he, h0⟩ | ⟨g, cp, cur, he, hb, _⟩
  · omega
  · exact ⟨g, (Value.slice.inj he).1, hb⟩
theorem extCells {w : World} {b : Nat} (hb : w.heap.size ≤ b) : ∀ (vs : List Value) (o : Nat) (w1 : World), Ext w w1 → Ext w (w1.setCells b o vs)
  | [], _, _, h => h
  | v :: r, o, w1, h => extCells hb r (o + 1) (w1.setCell ⟨b, o, none⟩ v) (extSet h hb)
end Go.Proofs.Ytfoffnbkfnbglaa
