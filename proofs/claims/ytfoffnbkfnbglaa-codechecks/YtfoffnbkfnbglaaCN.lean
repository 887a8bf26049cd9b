/-
  Codes: which are the same: slices.Equal of instructions, Same, the document's Same. What the dump lacks is left out.
-/
import Derived.Test.YtfoffnbkfnbglaaCJ
import Derived.Test.YtfoffnbkfnbglaaCI
import Derived.Test.YtfoffnbkfnbglaaCEq
import Derived.Test.YtfoffnbkfnbglaaCL
import Derived.Deep.Cut
namespace Go.Proofs.Ytfoffnbkfnbglaa
open Go.RowKit
set_option linter.unusedVariables false
set_option linter.unusedSimpArgs false

def sameTo (A B : List (Nat → Int)) (m : Nat) : Bool := (List.range m).all fun k => sameI (A.getD k zI) (B.getD k zI)
def sameL (A B : List (Nat → Int)) : Bool := decide (A.length = B.length) && sameTo A B A.length
def sameC (C D : Cod) : Bool := C.stage == D.stage && (C.regs == D.regs && (C.attr == D.attr && (C.unif == D.unif && (C.vary == D.vary && sameL C.ins D.ins))))
theorem sameTo_succ (A B : List (Nat → Int)) (m : Nat) : sameTo A B (m + 1) = (sameTo A B m && sameI (A.getD m zI) (B.getD m zI)) := by
  unfold sameTo
  rw [List.range_succ, List.all_append]
  simp
theorem sameTo_false {A B : List (Nat → Int)} {k n : Nat} (h : sameI (A.getD k zI) (B.getD k zI) = false) (hk : k < n) : sameTo A B n = false := by
  unfold sameTo
  rw [List.all_eq_false]
  exact ⟨k, List.mem_range.2 hk, by rw [h]; decide⟩

set_option maxRecDepth 10000 in
set_option maxHeartbeats 4000000 in
theorem equalI_any (ao bo : Option Addr) (ca cb : Nat) (A B : List (Nat → Int)) (w : World) (hA : IR w (.slice ao A.length ca) A) (hB : IR w (.slice bo B.length cb) B) :
    Calls Try.prog 32 #[.slice ao A.length ca, .slice bo B.length cb] w fun e w' => e = .returned (.bool (sameL A B)) ∧ Ext w w' := by
  have HA := hide hA
  have HB := hide hB
  obtain ⟨_, _, e1, _, ha1, ha2, _⟩ := hA
  obtain ⟨_, _, e2, _, hb1, hb2, _⟩ := hB
  have e1' := (Value.slice.inj e1).2.2
  have e2' := (Value.slice.inj e2).2.2
  rw [← e1'] at ha1 ha2
  rw [← e2'] at hb1 hb2
  clear e1 e2 e1' e2'
  unfold maxLen at ha2 hb2
  have E : Hid (sameL A B = (decide (A.length = B.length) && sameTo A B A.length)) := rfl
  generalize sameL A B = z at *
  by_cases el : A.length = B.length
  case neg =>
    have EQ : Hid (z = false) := by rw [Hid, unhide E, decide_eq_false el]; rfl
    have d0 : ((A.length : Int) != (B.length : Int)) = true := by simp; omega
    clear el E
    go_enter Try.func32, Try.ntmps32
    go_wp2
    go_ret
    rw [unhide EQ]
    exact ⟨rfl, Ext.refl _⟩
  case pos =>
  have EQ : Hid (z = sameTo A B A.length) := by rw [Hid, unhide E, decide_eq_true el]; rfl
  have HL := hide el
  rw [← el] at HB hb1 ⊢
  clear el E
  go_enter Try.func32, Try.ntmps32
  go_wp2
  go_loopw [13] (fun iv wr => ∃ k : Nat, k ≤ A.length ∧ iv = .int .i64 (k : Int) ∧ Ext w wr ∧ sameTo A B k = true) (fun iv _ => A.length - (intOf iv).toNat)
  case atStart => exact ⟨0, Nat.zero_le _, rfl, Ext.refl _, rfl⟩
  case round =>
    obtain ⟨k, hk, rfl, hx, hs⟩ := hrel
    have X := hide hx
    have HS0 := hide hs
    clear hx hs
    by_cases hlt : k < A.length
    · have hlB : k < B.length := by rw [← unhide HL]; exact hlt
      have hkn : (k : Int) < (A.length : Int) := by omega
      obtain ⟨_, _, e1, _, _, _, hat⟩ := (unhide HA).ext (unhide X)
      have e1' := (Value.slice.inj e1).1
      subst e1'
      obtain ⟨ba, oa, rfl, hra⟩ := hat k hlt
      obtain ⟨_, _, e2, _, _, _, hbt⟩ := (unhide HB).ext (unhide X)
      have e2' := (Value.slice.inj e2).1
      subst e2'
      obtain ⟨bb, ob, rfl, hrb⟩ := hbt k hlB
      have HRA := hide hra
      have HRB := hide hrb
      have HSU := hide (sameTo_succ A B k)
      have HSF := hide (fun h => sameTo_false (A := A) (B := B) (k := k) (n := A.length) h hlt)
      rw [show A.getD k zI = A[k] by simp [hlt], show B.getD k zI = B[k] by simp [hlB]] at HSU HSF
      have HEQ := hide (fun wx => eqI A[k] B[k] wx)
      generalize A[k] = x at *
      generalize B[k] = y at *
      clear hra hrb hat hbt e1 e2
      generalize hsm : sameI x y = sm at *
      clear hsm
      cases sm
      case false =>
        have EF := hide (unhide HSF (by first | rfl | trivial))
        go_upto_region 6 with fail
        refine wp_region_noPanic ?_
        refine wp_region_held_drew (S := fun wx => Ext wr wx) (by kernel_rfl) ((Ext.refl _).drew) (fun HS => ?_)
        refine wpAnyH_take (i := 0) (oi := { dst := some 16, op := Op.move (Operand.tmp 0), type := _, pos := _, after := _, guard := none }) (v := .slice (some ⟨ba, oa, none⟩) A.length ca) rfl (by kernel_rfl) (by kernel_rfl) (by kernel_rfl) (fun _ _ _ h => h) (Or.inl ⟨by rfl, fun _ _ => rfl⟩) HS ?_
        simp only [Act.put, List.setIfInBounds_toArray, List.set_cons_zero, List.set_cons_succ]
        refine wpAnyH_take (i := 1) (oi := { dst := some 17, op := Op.move (Operand.tmp 5), type := _, pos := _, after := _, guard := none }) (v := .int .i64 (k : Int)) rfl (by kernel_rfl) (by kernel_rfl) (by kernel_rfl) (fun _ _ _ h => h) (Or.inl ⟨by rfl, fun _ _ => rfl⟩) HS ?_
        simp only [Act.put, List.setIfInBounds_toArray, List.set_cons_zero, List.set_cons_succ]
        refine wpAnyH_take (i := 2) (oi := { dst := some 18, op := Op.indexAddr _ (Operand.tmp 16) (Operand.tmp 17), type := _, pos := _, after := _, guard := none }) (v := .pointer (some ⟨ba, oa + k * 16, none⟩)) rfl (by kernel_rfl) (by kernel_rfl) (by kernel_rfl) (fun _ _ _ h => h) (Or.inl ⟨by rfl, fun wx hx => by go_simp⟩) HS ?_
        simp only [Act.put, List.setIfInBounds_toArray, List.set_cons_zero, List.set_cons_succ]
        refine wpAnyH_take (i := 3) (oi := { dst := some 19, op := Op.load _ (Operand.tmp 18), type := _, pos := _, after := _, guard := none }) (v := .agg (insA x)) rfl (by kernel_rfl) (by kernel_rfl) (by kernel_rfl) (fun _ _ _ h => h) (yieldsIf_load_mid (by rfl) 39 (.tmp 18) rfl ba (oa + k * 16) rfl (insA x).toList _ (fun wx hx => rng_ext (unhide HRA) hx) Try.underlying39 rfl size16) HS ?_
        simp only [Act.put, List.setIfInBounds_toArray, List.set_cons_zero, List.set_cons_succ]
        refine wpAnyH_take (i := 4) (oi := { dst := some 20, op := Op.move (Operand.tmp 1), type := _, pos := _, after := _, guard := none }) (v := .slice (some ⟨bb, ob, none⟩) A.length cb) rfl (by kernel_rfl) (by kernel_rfl) (by kernel_rfl) (fun _ _ _ h => h) (Or.inl ⟨by rfl, fun _ _ => rfl⟩) HS ?_
        simp only [Act.put, List.setIfInBounds_toArray, List.set_cons_zero, List.set_cons_succ]
        refine wpAnyH_take (i := 5) (oi := { dst := some 21, op := Op.move (Operand.tmp 5), type := _, pos := _, after := _, guard := none }) (v := .int .i64 (k : Int)) rfl (by kernel_rfl) (by kernel_rfl) (by kernel_rfl) (fun _ _ _ h => h) (Or.inl ⟨by rfl, fun _ _ => rfl⟩) HS ?_
        simp only [Act.put, List.setIfInBounds_toArray, List.set_cons_zero, List.set_cons_succ]
        refine wpAnyH_take (i := 6) (oi := { dst := some 22, op := Op.indexAddr _ (Operand.tmp 20) (Operand.tmp 21), type := _, pos := _, after := _, guard := none }) (v := .pointer (some ⟨bb, ob + k * 16, none⟩)) rfl (by kernel_rfl) (by kernel_rfl) (by kernel_rfl) (fun _ _ _ h => h) (Or.inl ⟨by rfl, fun wx hx => by go_simp⟩) HS ?_
        simp only [Act.put, List.setIfInBounds_toArray, List.set_cons_zero, List.set_cons_succ]
        refine wpAnyH_take (i := 7) (oi := { dst := some 23, op := Op.load _ (Operand.tmp 22), type := _, pos := _, after := _, guard := none }) (v := .agg (insA y)) rfl (by kernel_rfl) (by kernel_rfl) (by kernel_rfl) (fun _ _ _ h => h) (yieldsIf_load_mid (by rfl) 39 (.tmp 22) rfl bb (ob + k * 16) rfl (insA y).toList _ (fun wx hx => rng_ext (unhide HRB) hx) Try.underlying39 rfl size16) HS ?_
        simp only [Act.put, List.setIfInBounds_toArray, List.set_cons_zero, List.set_cons_succ]
        refine wpAnyH_take (i := 8) (oi := { dst := some 24, op := Op.binOp BinOp.neq _ (Operand.tmp 19) (Operand.tmp 23) _, type := _, pos := _, after := _, guard := none }) (v := .bool true) rfl (by kernel_rfl) (by kernel_rfl) (by kernel_rfl) (fun _ _ _ h => h) (Or.inl ⟨by rfl, fun wx hx => exec_ne _ _ (.tmp 19) (.tmp 23) _ _ _ _ false rfl rfl rfl grdI (unhide HEQ wx)⟩) HS ?_
        simp only [Act.put, List.setIfInBounds_toArray, List.set_cons_zero, List.set_cons_succ]
        refine wpAnyH_done (by kernel_rfl) ?_ _
        refine NoPanic.normal ?_
        have HX9 := hide ((unhide X).trans HS)
        go_wp2
        go_ret
        rw [unhide EQ, unhide EF]
        exact ⟨rfl, unhide HX9⟩
      case true =>
        have ET : Hid (sameTo A B (k + 1) = true) := by rw [Hid, unhide HSU, unhide HS0]; rfl
        go_upto_region 6 with fail
        refine wp_region_noPanic ?_
        refine wp_region_held_drew (S := fun wx => Ext wr wx) (by kernel_rfl) ((Ext.refl _).drew) (fun HS => ?_)
        refine wpAnyH_take (i := 0) (oi := { dst := some 16, op := Op.move (Operand.tmp 0), type := _, pos := _, after := _, guard := none }) (v := .slice (some ⟨ba, oa, none⟩) A.length ca) rfl (by kernel_rfl) (by kernel_rfl) (by kernel_rfl) (fun _ _ _ h => h) (Or.inl ⟨by rfl, fun _ _ => rfl⟩) HS ?_
        simp only [Act.put, List.setIfInBounds_toArray, List.set_cons_zero, List.set_cons_succ]
        refine wpAnyH_take (i := 1) (oi := { dst := some 17, op := Op.move (Operand.tmp 5), type := _, pos := _, after := _, guard := none }) (v := .int .i64 (k : Int)) rfl (by kernel_rfl) (by kernel_rfl) (by kernel_rfl) (fun _ _ _ h => h) (Or.inl ⟨by rfl, fun _ _ => rfl⟩) HS ?_
        simp only [Act.put, List.setIfInBounds_toArray, List.set_cons_zero, List.set_cons_succ]
        refine wpAnyH_take (i := 2) (oi := { dst := some 18, op := Op.indexAddr _ (Operand.tmp 16) (Operand.tmp 17), type := _, pos := _, after := _, guard := none }) (v := .pointer (some ⟨ba, oa + k * 16, none⟩)) rfl (by kernel_rfl) (by kernel_rfl) (by kernel_rfl) (fun _ _ _ h => h) (Or.inl ⟨by rfl, fun wx hx => by go_simp⟩) HS ?_
        simp only [Act.put, List.setIfInBounds_toArray, List.set_cons_zero, List.set_cons_succ]
        refine wpAnyH_take (i := 3) (oi := { dst := some 19, op := Op.load _ (Operand.tmp 18), type := _, pos := _, after := _, guard := none }) (v := .agg (insA x)) rfl (by kernel_rfl) (by kernel_rfl) (by kernel_rfl) (fun _ _ _ h => h) (yieldsIf_load_mid (by rfl) 39 (.tmp 18) rfl ba (oa + k * 16) rfl (insA x).toList _ (fun wx hx => rng_ext (unhide HRA) hx) Try.underlying39 rfl size16) HS ?_
        simp only [Act.put, List.setIfInBounds_toArray, List.set_cons_zero, List.set_cons_succ]
        refine wpAnyH_take (i := 4) (oi := { dst := some 20, op := Op.move (Operand.tmp 1), type := _, pos := _, after := _, guard := none }) (v := .slice (some ⟨bb, ob, none⟩) A.length cb) rfl (by kernel_rfl) (by kernel_rfl) (by kernel_rfl) (fun _ _ _ h => h) (Or.inl ⟨by rfl, fun _ _ => rfl⟩) HS ?_
        simp only [Act.put, List.setIfInBounds_toArray, List.set_cons_zero, List.set_cons_succ]
        refine wpAnyH_take (i := 5) (oi := { dst := some 21, op := Op.move (Operand.tmp 5), type := _, pos := _, after := _, guard := none }) (v := .int .i64 (k : Int)) rfl (by kernel_rfl) (by kernel_rfl) (by kernel_rfl) (fun _ _ _ h => h) (Or.inl ⟨by rfl, fun _ _ => rfl⟩) HS ?_
        simp only [Act.put, List.setIfInBounds_toArray, List.set_cons_zero, List.set_cons_succ]
        refine wpAnyH_take (i := 6) (oi := { dst := some 22, op := Op.indexAddr _ (Operand.tmp 20) (Operand.tmp 21), type := _, pos := _, after := _, guard := none }) (v := .pointer (some ⟨bb, ob + k * 16, none⟩)) rfl (by kernel_rfl) (by kernel_rfl) (by kernel_rfl) (fun _ _ _ h => h) (Or.inl ⟨by rfl, fun wx hx => by go_simp⟩) HS ?_
        simp only [Act.put, List.setIfInBounds_toArray, List.set_cons_zero, List.set_cons_succ]
        refine wpAnyH_take (i := 7) (oi := { dst := some 23, op := Op.load _ (Operand.tmp 22), type := _, pos := _, after := _, guard := none }) (v := .agg (insA y)) rfl (by kernel_rfl) (by kernel_rfl) (by kernel_rfl) (fun _ _ _ h => h) (yieldsIf_load_mid (by rfl) 39 (.tmp 22) rfl bb (ob + k * 16) rfl (insA y).toList _ (fun wx hx => rng_ext (unhide HRB) hx) Try.underlying39 rfl size16) HS ?_
        simp only [Act.put, List.setIfInBounds_toArray, List.set_cons_zero, List.set_cons_succ]
        refine wpAnyH_take (i := 8) (oi := { dst := some 24, op := Op.binOp BinOp.neq _ (Operand.tmp 19) (Operand.tmp 23) _, type := _, pos := _, after := _, guard := none }) (v := .bool false) rfl (by kernel_rfl) (by kernel_rfl) (by kernel_rfl) (fun _ _ _ h => h) (Or.inl ⟨by rfl, fun wx hx => exec_ne _ _ (.tmp 19) (.tmp 23) _ _ _ _ true rfl rfl rfl grdI (unhide HEQ wx)⟩) HS ?_
        simp only [Act.put, List.setIfInBounds_toArray, List.set_cons_zero, List.set_cons_succ]
        refine wpAnyH_done (by kernel_rfl) ?_ _
        refine NoPanic.normal ?_
        have HX9 := hide ((unhide X).trans HS)
        go_wp2
        go_roundw
        case rel => exact ⟨k + 1, by omega, by go_num, unhide HX9, unhide ET⟩
        case measure => simp [intOf]; omega
    · obtain rfl : k = A.length := by omega
      go_wp2
      go_ret
      rw [unhide EQ, unhide HS0]
      exact ⟨rfl, unhide X⟩

theorem sameC_hd (C D : Cod) : sameC C D = ((C.stage == D.stage && (C.regs == D.regs && (C.attr == D.attr && (C.unif == D.unif && (C.vary == D.vary && (C.ins.length : Int) == (D.ins.length : Int)))))) && sameL C.ins D.ins) := by
  unfold sameC
  have h : sameL C.ins D.ins = ((C.ins.length : Int) == (D.ins.length : Int) && sameL C.ins D.ins) := by
    by_cases e : C.ins.length = D.ins.length
    · rw [e]; simp
    · have e2 : sameL C.ins D.ins = false := by unfold sameL; rw [decide_eq_false e]; rfl
      rw [e2]; simp
  conv => lhs; rw [h]
  cases (C.stage == D.stage) <;> cases (C.regs == D.regs) <;> cases (C.attr == D.attr) <;> cases (C.unif == D.unif) <;> cases (C.vary == D.vary) <;> simp

set_option maxRecDepth 10000 in
set_option maxHeartbeats 4000000 in
theorem same_any (C D : Cod) (v u : Value) (w : World) (hA : IR w v C.ins) (hB : IR w u D.ins) : Calls Try.prog 13 #[.agg #[.int .i64 (C).stage, v, .int .i64 (C).regs, .int .i64 (C).attr, .int .i64 (C).unif, .int .i64 (C).vary], .agg #[.int .i64 (D).stage, u, .int .i64 (D).regs, .int .i64 (D).attr, .int .i64 (D).unif, .int .i64 (D).vary]] w fun e w' => e = .returned (.bool (sameC C D)) ∧ Ext w w' := by
  have HA := hide hA
  have HB := hide hB
  obtain ⟨ao, ca, rfl, _⟩ := hA
  obtain ⟨bo, cb, rfl, _⟩ := hB
  have E := hide (sameC_hd C D)
  have HEQ := hide (fun wx => eqSeven 1128353872 C.stage C.regs C.attr C.unif C.vary (C.ins.length : Int) 1128353872 D.stage D.regs D.attr D.unif D.vary (D.ins.length : Int) wx)
  simp only [beq_self_eq_true, Bool.true_and] at HEQ
  have HX : Hid (Ext w ((w.alloc (.cells #[.int .i64 (C).stage, .slice ao C.ins.length ca, .int .i64 (C).regs, .int .i64 (C).attr, .int .i64 (C).unif, .int .i64 (C).vary] 26)).alloc (.cells #[.int .i64 (D).stage, .slice bo D.ins.length cb, .int .i64 (D).regs, .int .i64 (D).attr, .int .i64 (D).unif, .int .i64 (D).vary] 26))) := ((Ext.refl w).alloc _).alloc _
  have HE := hide (fun wx (hx : Ext w wx) => equalI_any ao bo ca cb C.ins D.ins wx ((unhide HA).ext hx) ((unhide HB).ext hx))
  have HCA : Hid (Blk ((w.alloc (.cells #[.int .i64 (C).stage, .slice ao C.ins.length ca, .int .i64 (C).regs, .int .i64 (C).attr, .int .i64 (C).unif, .int .i64 (C).vary] 26)).alloc (.cells #[.int .i64 (D).stage, .slice bo D.ins.length cb, .int .i64 (D).regs, .int .i64 (D).attr, .int .i64 (D).unif, .int .i64 (D).vary] 26)) w.heap.size #[.int .i64 (C).stage, .slice ao C.ins.length ca, .int .i64 (C).regs, .int .i64 (C).attr, .int .i64 (C).unif, .int .i64 (C).vary] 26) := (Blk.new w _ _).alloc _
  have HCB : Hid (Blk ((w.alloc (.cells #[.int .i64 (C).stage, .slice ao C.ins.length ca, .int .i64 (C).regs, .int .i64 (C).attr, .int .i64 (C).unif, .int .i64 (C).vary] 26)).alloc (.cells #[.int .i64 (D).stage, .slice bo D.ins.length cb, .int .i64 (D).regs, .int .i64 (D).attr, .int .i64 (D).unif, .int .i64 (D).vary] 26)) (w.heap.size + 1) #[.int .i64 (D).stage, .slice bo D.ins.length cb, .int .i64 (D).regs, .int .i64 (D).attr, .int .i64 (D).unif, .int .i64 (D).vary] 26) := Blk.here (by simp)
  generalize sameC C D = z at *
  generalize sameL C.ins D.ins = sl at *
  generalize (C.stage == D.stage && (C.regs == D.regs && (C.attr == D.attr && (C.unif == D.unif && (C.vary == D.vary && (C.ins.length : Int) == (D.ins.length : Int)))))) = hs at *
  clear HA HB
  go_enter Try.func13, Try.ntmps13
  go_wp2
  generalize (w.alloc (.cells #[.int .i64 (C).stage, .slice ao C.ins.length ca, .int .i64 (C).regs, .int .i64 (C).attr, .int .i64 (C).unif, .int .i64 (C).vary] 26)).alloc (.cells #[.int .i64 (D).stage, .slice bo D.ins.length cb, .int .i64 (D).regs, .int .i64 (D).attr, .int .i64 (D).unif, .int .i64 (D).vary] 26) = w2 at HCA HCB HX ⊢
  have HE := hide (fun wx (hx : Ext w2 wx) => unhide HE wx ((unhide HX).trans hx))
  cases hs
  case false =>
    have EQ : Hid (z = false) := by rw [Hid, unhide E]; rfl
    refine wp_region_noPanic ?_
    refine wp_region_held_drew (S := fun wx => Ext w2 wx) (by kernel_rfl) ((Ext.refl _).drew) (fun HS => ?_)
    refine wpAnyH_take (i := 0) (oi := { dst := some 5, op := Op.load _ (Operand.tmp 2), type := _, pos := _, after := _, guard := none }) (v := .agg #[.int .i64 (C).stage, .slice ao C.ins.length ca, .int .i64 (C).regs, .int .i64 (C).attr, .int .i64 (C).unif, .int .i64 (C).vary]) rfl (by kernel_rfl) (by kernel_rfl) (by kernel_rfl) (fun _ _ _ h => h) (yieldsIf_load_mid (by rfl) 26 (.tmp 2) rfl w.heap.size 0 rfl [.int .i64 C.stage, .slice ao C.ins.length ca, .int .i64 C.regs, .int .i64 C.attr, .int .i64 C.unif, .int .i64 C.vary] _ (fun wx hx => ((unhide HCA).ext hx).rng) Try.underlying26 rfl size6) HS ?_
    simp only [Act.put, List.setIfInBounds_toArray, List.set_cons_zero, List.set_cons_succ]
    refine wpAnyH_take (i := 2) (oi := { dst := some 7, op := Op.load _ (Operand.tmp 3), type := _, pos := _, after := _, guard := none }) (v := .agg #[.int .i64 (D).stage, .slice bo D.ins.length cb, .int .i64 (D).regs, .int .i64 (D).attr, .int .i64 (D).unif, .int .i64 (D).vary]) rfl (by kernel_rfl) (by kernel_rfl) (by kernel_rfl) (fun _ _ _ h => h) (yieldsIf_load_mid (by rfl) 26 (.tmp 3) rfl (w.heap.size + 1) 0 rfl [.int .i64 D.stage, .slice bo D.ins.length cb, .int .i64 D.regs, .int .i64 D.attr, .int .i64 D.unif, .int .i64 D.vary] _ (fun wx hx => ((unhide HCB).ext hx).rng) Try.underlying26 rfl size6) HS ?_
    simp only [Act.put, List.setIfInBounds_toArray, List.set_cons_zero, List.set_cons_succ]
    refine wpAnyH_ready (rs := [1]) (by kernel_rfl) (by simp) (AllReadyH.cons (o := { dst := some 6, op := Op.call { callee := Callee.value (Operand.func _), args := #[Operand.tmp 5], argTypes := _ }, type := _, pos := _, after := _, guard := none }) rfl (fun KK hK => ?_) AllReadyH.nil)
    go_simp
    refine (headOf_any C ao C.ins.length ca _).mono ?_
    rintro e ws ⟨rfl, hxs⟩
    have HS2 := Ext.trans HS hxs
    clear hxs HS
    have HS := HS2
    clear HS2
    refine hK.out _ _ HS (fun _ => ?_)
    clear hK KK
    try simp only [Act.put, List.setIfInBounds_toArray, List.set_cons_zero, List.set_cons_succ]
    refine wpAnyH_ready (rs := [3]) (by kernel_rfl) (by simp) (AllReadyH.cons (o := { dst := some 8, op := Op.call { callee := Callee.value (Operand.func _), args := #[Operand.tmp 7], argTypes := _ }, type := _, pos := _, after := _, guard := none }) rfl (fun KK hK => ?_) AllReadyH.nil)
    go_simp
    refine (headOf_any D bo D.ins.length cb _).mono ?_
    rintro e ws ⟨rfl, hxs⟩
    have HS2 := Ext.trans HS hxs
    clear hxs HS
    have HS := HS2
    clear HS2
    refine hK.out _ _ HS (fun _ => ?_)
    clear hK KK
    try simp only [Act.put, List.setIfInBounds_toArray, List.set_cons_zero, List.set_cons_succ]
    refine wpAnyH_take (i := 4) (oi := { dst := some 9, op := Op.binOp BinOp.eql _ (Operand.tmp 6) (Operand.tmp 8) _, type := _, pos := _, after := _, guard := none }) (v := .bool false) rfl (by kernel_rfl) (by kernel_rfl) (by kernel_rfl) (fun _ _ _ h => h) (Or.inl ⟨by rfl, fun wx hx => exec_eq _ _ (.tmp 6) (.tmp 8) _ _ _ _ false rfl rfl rfl grd7 (unhide HEQ wx)⟩) HS ?_
    simp only [Act.put, List.setIfInBounds_toArray, List.set_cons_zero, List.set_cons_succ]
    refine wpAnyH_take (i := 5) (oi := { dst := some 10, op := Op.move (Operand.tmp 9), type := _, pos := _, after := _, guard := none }) (v := .bool false) rfl (by kernel_rfl) (by kernel_rfl) (by kernel_rfl) (fun _ _ _ h => h) (Or.inl ⟨by rfl, fun _ _ => rfl⟩) HS ?_
    simp only [Act.put, List.setIfInBounds_toArray, List.set_cons_zero, List.set_cons_succ]
    refine wpAnyH_take (i := 6) (oi := { dst := some 11, op := Op.fieldAddr _ (Operand.tmp 2) 1, type := _, pos := _, after := _, guard := some (5, true) }) (v := undef) rfl (by kernel_rfl) (by kernel_rfl) (by kernel_rfl) (fun _ _ _ h => h) (Or.inr ⟨by rfl, rfl⟩) HS ?_
    simp only [Act.put, List.setIfInBounds_toArray, List.set_cons_zero, List.set_cons_succ]
    refine wpAnyH_take (i := 7) (oi := { dst := some 12, op := Op.load _ (Operand.tmp 11), type := _, pos := _, after := _, guard := some (5, true) }) (v := undef) rfl (by kernel_rfl) (by kernel_rfl) (by kernel_rfl) (fun _ _ _ h => h) (Or.inr ⟨by rfl, rfl⟩) HS ?_
    simp only [Act.put, List.setIfInBounds_toArray, List.set_cons_zero, List.set_cons_succ]
    refine wpAnyH_take (i := 8) (oi := { dst := some 13, op := Op.fieldAddr _ (Operand.tmp 3) 1, type := _, pos := _, after := _, guard := some (5, true) }) (v := undef) rfl (by kernel_rfl) (by kernel_rfl) (by kernel_rfl) (fun _ _ _ h => h) (Or.inr ⟨by rfl, rfl⟩) HS ?_
    simp only [Act.put, List.setIfInBounds_toArray, List.set_cons_zero, List.set_cons_succ]
    refine wpAnyH_take (i := 9) (oi := { dst := some 14, op := Op.load _ (Operand.tmp 13), type := _, pos := _, after := _, guard := some (5, true) }) (v := undef) rfl (by kernel_rfl) (by kernel_rfl) (by kernel_rfl) (fun _ _ _ h => h) (Or.inr ⟨by rfl, rfl⟩) HS ?_
    simp only [Act.put, List.setIfInBounds_toArray, List.set_cons_zero, List.set_cons_succ]
    refine wpAnyH_take (i := 10) (oi := { dst := some 15, op := Op.call { callee := Callee.value (Operand.func _), args := #[Operand.tmp 12, Operand.tmp 14], argTypes := _ }, type := _, pos := _, after := _, guard := some (5, true) }) (v := undef) rfl (by kernel_rfl) (by kernel_rfl) (by kernel_rfl) (fun _ _ _ h => h) (Or.inr ⟨by rfl, rfl⟩) HS ?_
    simp only [Act.put, List.setIfInBounds_toArray, List.set_cons_zero, List.set_cons_succ]
    refine wpAnyH_take (i := 11) (oi := { dst := some 16, op := Op.pick (Operand.tmp 10) (Operand.tmp 15) (Operand.const (Value.bool false)), type := _, pos := _, after := _, guard := none }) (v := .bool false) rfl (by kernel_rfl) (by kernel_rfl) (by kernel_rfl) (fun _ _ _ h => h) (Or.inl ⟨by rfl, fun _ _ => rfl⟩) HS ?_
    simp only [Act.put, List.setIfInBounds_toArray, List.set_cons_zero, List.set_cons_succ]
    refine wpAnyH_take (i := 12) (oi := { dst := some 4, op := Op.assign (Operand.tmp 16), type := _, pos := _, after := _, guard := none }) (v := .bool false) rfl (by kernel_rfl) (by kernel_rfl) (by kernel_rfl) (fun _ _ _ h => h) (Or.inl ⟨by rfl, fun _ _ => rfl⟩) HS ?_
    simp only [Act.put, List.setIfInBounds_toArray, List.set_cons_zero, List.set_cons_succ]
    refine wpAnyH_done (by kernel_rfl) ?_ _
    refine NoPanic.normal ?_
    have HX9 := hide ((unhide HX).trans HS)
    go_wp2
    go_ret
    rw [unhide EQ]
    exact ⟨rfl, unhide HX9⟩
  case true =>
    have EQ : Hid (z = sl) := by rw [Hid, unhide E]; rfl
    refine wp_region_noPanic ?_
    refine wp_region_held_drew (S := fun wx => Ext w2 wx) (by kernel_rfl) ((Ext.refl _).drew) (fun HS => ?_)
    refine wpAnyH_take (i := 0) (oi := { dst := some 5, op := Op.load _ (Operand.tmp 2), type := _, pos := _, after := _, guard := none }) (v := .agg #[.int .i64 (C).stage, .slice ao C.ins.length ca, .int .i64 (C).regs, .int .i64 (C).attr, .int .i64 (C).unif, .int .i64 (C).vary]) rfl (by kernel_rfl) (by kernel_rfl) (by kernel_rfl) (fun _ _ _ h => h) (yieldsIf_load_mid (by rfl) 26 (.tmp 2) rfl w.heap.size 0 rfl [.int .i64 C.stage, .slice ao C.ins.length ca, .int .i64 C.regs, .int .i64 C.attr, .int .i64 C.unif, .int .i64 C.vary] _ (fun wx hx => ((unhide HCA).ext hx).rng) Try.underlying26 rfl size6) HS ?_
    simp only [Act.put, List.setIfInBounds_toArray, List.set_cons_zero, List.set_cons_succ]
    refine wpAnyH_take (i := 2) (oi := { dst := some 7, op := Op.load _ (Operand.tmp 3), type := _, pos := _, after := _, guard := none }) (v := .agg #[.int .i64 (D).stage, .slice bo D.ins.length cb, .int .i64 (D).regs, .int .i64 (D).attr, .int .i64 (D).unif, .int .i64 (D).vary]) rfl (by kernel_rfl) (by kernel_rfl) (by kernel_rfl) (fun _ _ _ h => h) (yieldsIf_load_mid (by rfl) 26 (.tmp 3) rfl (w.heap.size + 1) 0 rfl [.int .i64 D.stage, .slice bo D.ins.length cb, .int .i64 D.regs, .int .i64 D.attr, .int .i64 D.unif, .int .i64 D.vary] _ (fun wx hx => ((unhide HCB).ext hx).rng) Try.underlying26 rfl size6) HS ?_
    simp only [Act.put, List.setIfInBounds_toArray, List.set_cons_zero, List.set_cons_succ]
    refine wpAnyH_ready (rs := [1]) (by kernel_rfl) (by simp) (AllReadyH.cons (o := { dst := some 6, op := Op.call { callee := Callee.value (Operand.func _), args := #[Operand.tmp 5], argTypes := _ }, type := _, pos := _, after := _, guard := none }) rfl (fun KK hK => ?_) AllReadyH.nil)
    go_simp
    refine (headOf_any C ao C.ins.length ca _).mono ?_
    rintro e ws ⟨rfl, hxs⟩
    have HS2 := Ext.trans HS hxs
    clear hxs HS
    have HS := HS2
    clear HS2
    refine hK.out _ _ HS (fun _ => ?_)
    clear hK KK
    try simp only [Act.put, List.setIfInBounds_toArray, List.set_cons_zero, List.set_cons_succ]
    refine wpAnyH_ready (rs := [3]) (by kernel_rfl) (by simp) (AllReadyH.cons (o := { dst := some 8, op := Op.call { callee := Callee.value (Operand.func _), args := #[Operand.tmp 7], argTypes := _ }, type := _, pos := _, after := _, guard := none }) rfl (fun KK hK => ?_) AllReadyH.nil)
    go_simp
    refine (headOf_any D bo D.ins.length cb _).mono ?_
    rintro e ws ⟨rfl, hxs⟩
    have HS2 := Ext.trans HS hxs
    clear hxs HS
    have HS := HS2
    clear HS2
    refine hK.out _ _ HS (fun _ => ?_)
    clear hK KK
    try simp only [Act.put, List.setIfInBounds_toArray, List.set_cons_zero, List.set_cons_succ]
    refine wpAnyH_take (i := 4) (oi := { dst := some 9, op := Op.binOp BinOp.eql _ (Operand.tmp 6) (Operand.tmp 8) _, type := _, pos := _, after := _, guard := none }) (v := .bool true) rfl (by kernel_rfl) (by kernel_rfl) (by kernel_rfl) (fun _ _ _ h => h) (Or.inl ⟨by rfl, fun wx hx => exec_eq _ _ (.tmp 6) (.tmp 8) _ _ _ _ true rfl rfl rfl grd7 (unhide HEQ wx)⟩) HS ?_
    simp only [Act.put, List.setIfInBounds_toArray, List.set_cons_zero, List.set_cons_succ]
    refine wpAnyH_take (i := 5) (oi := { dst := some 10, op := Op.move (Operand.tmp 9), type := _, pos := _, after := _, guard := none }) (v := .bool true) rfl (by kernel_rfl) (by kernel_rfl) (by kernel_rfl) (fun _ _ _ h => h) (Or.inl ⟨by rfl, fun _ _ => rfl⟩) HS ?_
    simp only [Act.put, List.setIfInBounds_toArray, List.set_cons_zero, List.set_cons_succ]
    refine wpAnyH_take (i := 6) (oi := { dst := some 11, op := Op.fieldAddr _ (Operand.tmp 2) 1, type := _, pos := _, after := _, guard := some (5, true) }) (v := .pointer (some ⟨w.heap.size, 1, none⟩)) rfl (by kernel_rfl) (by kernel_rfl) (by kernel_rfl) (fun _ _ _ h => h) (Or.inl ⟨by rfl, fun _ _ => rfl⟩) HS ?_
    simp only [Act.put, List.setIfInBounds_toArray, List.set_cons_zero, List.set_cons_succ]
    refine wpAnyH_take (i := 7) (oi := { dst := some 12, op := Op.load _ (Operand.tmp 11), type := _, pos := _, after := _, guard := some (5, true) }) (v := .slice ao C.ins.length ca) rfl (by kernel_rfl) (by kernel_rfl) (by kernel_rfl) (fun _ _ _ h => h) (Or.inl ⟨by rfl, fun wx hx => by have h1 := (cellC ((unhide HCA).ext hx)).2.1; go_simp⟩) HS ?_
    simp only [Act.put, List.setIfInBounds_toArray, List.set_cons_zero, List.set_cons_succ]
    refine wpAnyH_take (i := 8) (oi := { dst := some 13, op := Op.fieldAddr _ (Operand.tmp 3) 1, type := _, pos := _, after := _, guard := some (5, true) }) (v := .pointer (some ⟨w.heap.size + 1, 1, none⟩)) rfl (by kernel_rfl) (by kernel_rfl) (by kernel_rfl) (fun _ _ _ h => h) (Or.inl ⟨by rfl, fun _ _ => rfl⟩) HS ?_
    simp only [Act.put, List.setIfInBounds_toArray, List.set_cons_zero, List.set_cons_succ]
    refine wpAnyH_take (i := 9) (oi := { dst := some 14, op := Op.load _ (Operand.tmp 13), type := _, pos := _, after := _, guard := some (5, true) }) (v := .slice bo D.ins.length cb) rfl (by kernel_rfl) (by kernel_rfl) (by kernel_rfl) (fun _ _ _ h => h) (Or.inl ⟨by rfl, fun wx hx => by have h1 := (cellC ((unhide HCB).ext hx)).2.1; go_simp⟩) HS ?_
    simp only [Act.put, List.setIfInBounds_toArray, List.set_cons_zero, List.set_cons_succ]
    refine wpAnyH_ready (rs := [10]) (by kernel_rfl) (by simp) (AllReadyH.cons (o := { dst := some 15, op := Op.call { callee := Callee.value (Operand.func _), args := #[Operand.tmp 12, Operand.tmp 14], argTypes := _ }, type := _, pos := _, after := _, guard := some (5, true) }) rfl (fun KK hK => ?_) AllReadyH.nil)
    go_simp
    refine (unhide HE _ HS).mono ?_
    rintro e ws ⟨rfl, hxs⟩
    have HS2 := Ext.trans HS hxs
    clear hxs HS
    have HS := HS2
    clear HS2
    refine hK.out _ _ HS (fun _ => ?_)
    clear hK KK
    try simp only [Act.put, List.setIfInBounds_toArray, List.set_cons_zero, List.set_cons_succ]
    refine wpAnyH_take (i := 11) (oi := { dst := some 16, op := Op.pick (Operand.tmp 10) (Operand.tmp 15) (Operand.const (Value.bool false)), type := _, pos := _, after := _, guard := none }) (v := .bool sl) rfl (by kernel_rfl) (by kernel_rfl) (by kernel_rfl) (fun _ _ _ h => h) (Or.inl ⟨by rfl, fun _ _ => rfl⟩) HS ?_
    simp only [Act.put, List.setIfInBounds_toArray, List.set_cons_zero, List.set_cons_succ]
    refine wpAnyH_take (i := 12) (oi := { dst := some 4, op := Op.assign (Operand.tmp 16), type := _, pos := _, after := _, guard := none }) (v := .bool sl) rfl (by kernel_rfl) (by kernel_rfl) (by kernel_rfl) (fun _ _ _ h => h) (Or.inl ⟨by rfl, fun _ _ => rfl⟩) HS ?_
    simp only [Act.put, List.setIfInBounds_toArray, List.set_cons_zero, List.set_cons_succ]
    refine wpAnyH_done (by kernel_rfl) ?_ _
    refine NoPanic.normal ?_
    have HX9 := hide ((unhide HX).trans HS)
    go_wp2
    go_ret
    rw [unhide EQ]
    exact ⟨rfl, unhide HX9⟩
end Go.Proofs.Ytfoffnbkfnbglaa
