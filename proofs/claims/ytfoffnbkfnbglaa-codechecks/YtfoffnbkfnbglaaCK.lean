/-
  Codes: the walks of instrMayBe, mayBe, Check. What the dump lacks is left out.
-/
import Derived.Test.YtfoffnbkfnbglaaCJe
import Derived.Test.YtfoffnbkfnbglaaCI
import Derived.Test.YtfoffnbkfnbglaaCEq
namespace Go.Proofs.Ytfoffnbkfnbglaa
open Go.RowKit
set_option linter.unusedVariables false
set_option linter.unusedSimpArgs false

set_option maxRecDepth 10000 in
set_option maxHeartbeats 4000000 in
theorem ins_any (C : Cod) (v : Value) (L : List (Nat → Int)) (k : Nat) (w : World) (h : IR w v L) (hk : k < L.length) : Calls Try.prog 43 #[.agg #[.int .i64 (C).stage, v, .int .i64 (C).regs, .int .i64 (C).attr, .int .i64 (C).unif, .int .i64 (C).vary], .int .i64 (k : Int)] w fun e w' => e = .returned (.bool (insB C L.length k L[k])) ∧ Ext w w' := by
  have HV := hide h
  obtain ⟨ao, cap, rfl, hn0, hlc, hcm, hat⟩ := h
  obtain ⟨b, off, rfl, hrg⟩ := hat k hk
  have E : Hid (insB C L.length k L[k] = (sameI L[k] (justP L[k]) && (rgsB C L[k] && fldB C L.length k L[k]))) := rfl
  have HFL := hide (fun wx (hx : Ext w wx) => fields_any C _ L k wx ((unhide HV).ext hx) hk)
  have HRG := hide (fun wx => regs_any C (.slice (some ⟨b, off, none⟩) L.length cap) L[k] wx)
  generalize insB C L.length k L[k] = y at *
  generalize fldB C L.length k L[k] = fb at *
  generalize L[k] = I at *
  have HEQ := hide (fun wx => eqI I (justP I) wx)
  clear HV hat hn0
  generalize L.length = n at *
  generalize hsm : sameI I (justP I) = sm at *
  generalize hrb : rgsB C I = rb at *
  clear hsm hrb
  unfold maxLen at hcm
  have HI : Hid (Blk ((w.alloc (.cells #[.int .i64 (C).stage, .slice (some ⟨b, off, none⟩) n cap, .int .i64 (C).regs, .int .i64 (C).attr, .int .i64 (C).unif, .int .i64 (C).vary] 26)).alloc (.cells (insA I) 39)) (w.heap.size + 1) (insA I) 39) := Blk.here (by simp)
  have HC : Hid (Blk ((w.alloc (.cells #[.int .i64 (C).stage, .slice (some ⟨b, off, none⟩) n cap, .int .i64 (C).regs, .int .i64 (C).attr, .int .i64 (C).unif, .int .i64 (C).vary] 26)).alloc (.cells (insA I) 39)) w.heap.size #[.int .i64 (C).stage, .slice (some ⟨b, off, none⟩) n cap, .int .i64 (C).regs, .int .i64 (C).attr, .int .i64 (C).unif, .int .i64 (C).vary] 26) := (Blk.new w _ _).alloc _
  have HX := hide (((Ext.refl w).alloc (.cells #[.int .i64 (C).stage, .slice (some ⟨b, off, none⟩) n cap, .int .i64 (C).regs, .int .i64 (C).attr, .int .i64 (C).unif, .int .i64 (C).vary] 26)).alloc (.cells (insA I) 39))
  have HRNG := hide (rng_ext hrg ((Ext.refl w).alloc (.cells #[.int .i64 (C).stage, .slice (some ⟨b, off, none⟩) n cap, .int .i64 (C).regs, .int .i64 (C).attr, .int .i64 (C).unif, .int .i64 (C).vary] 26)))
  have hkn : (k : Int) < (n : Int) := by omega
  clear hrg
  go_enter Try.func43, Try.ntmps43
  go_wp2_with (first
    | (refine wpList_load_mid rfl 39 (.tmp 9) rfl b (off + k * 16) rfl (insA I).toList _ (unhide HRNG) Try.underlying39 rfl size16 ?_; rw [Array.toArray_toList])
    | refine wpList_storeLast rfl 39 (.tmp 5) (.tmp 10) rfl _ (w.heap.size + 1) (by simp) rfl (insA I) rfl 16 size16 rfl rfl (insA_one I) ?_)
  clear HRNG
  generalize (w.alloc (.cells #[.int .i64 (C).stage, .slice (some ⟨b, off, none⟩) n cap, .int .i64 (C).regs, .int .i64 (C).attr, .int .i64 (C).unif, .int .i64 (C).vary] 26)).alloc (.cells (insA I) 39) = w2 at HI HC HX ⊢
  have HFL := hide (fun wx (hx : Ext w2 wx) => unhide HFL wx ((unhide HX).trans hx))
  cases sm
  case false =>
    have EQ : Hid (y = false) := by rw [Hid, unhide E]; rfl
    clear E HRG HFL
    refine wp_region_noPanic ?_
    refine wp_region_held_drew (S := fun wx => Ext w2 wx) (by kernel_rfl) ((Ext.refl _).drew) (fun HS => ?_)
    refine wpAnyH_take (i := 0) (oi := { dst := some 11, op := Op.load _ (Operand.tmp 5), type := _, pos := _, after := _, guard := none }) (v := .agg (insA I)) rfl (by kernel_rfl) (by kernel_rfl) (by kernel_rfl) (fun _ _ _ h => h) (yieldsIf_load_mid (by rfl) 39 (.tmp 5) rfl (w.heap.size + 1) 0 rfl (insA I).toList _ (fun wx hx => ((unhide HI).ext hx).rng) Try.underlying39 rfl size16) HS ?_
    simp only [Act.put, List.setIfInBounds_toArray, List.set_cons_zero, List.set_cons_succ]
    refine wpAnyH_take (i := 1) (oi := { dst := some 12, op := Op.load _ (Operand.tmp 5), type := _, pos := _, after := _, guard := none }) (v := .agg (insA I)) rfl (by kernel_rfl) (by kernel_rfl) (by kernel_rfl) (fun _ _ _ h => h) (yieldsIf_load_mid (by rfl) 39 (.tmp 5) rfl (w.heap.size + 1) 0 rfl (insA I).toList _ (fun wx hx => ((unhide HI).ext hx).rng) Try.underlying39 rfl size16) HS ?_
    simp only [Act.put, List.setIfInBounds_toArray, List.set_cons_zero, List.set_cons_succ]
    refine wpAnyH_ready (rs := [2]) (by kernel_rfl) (by simp) (AllReadyH.cons (o := { dst := some 13, op := Op.call { callee := Callee.value (Operand.func _), args := #[Operand.tmp 12], argTypes := _ }, type := _, pos := _, after := _, guard := none }) rfl (fun KK hK => ?_) AllReadyH.nil)
    go_simp
    refine (just_any I _).mono ?_
    rintro e ws ⟨rfl, hxs⟩
    have HS2 := Ext.trans HS hxs
    clear hxs HS
    have HS := HS2
    clear HS2
    refine hK.out _ _ HS (fun _ => ?_)
    clear hK KK
    try simp only [Act.put, List.setIfInBounds_toArray, List.set_cons_zero, List.set_cons_succ]
    refine wpAnyH_take (i := 3) (oi := { dst := some 14, op := Op.binOp BinOp.eql _ (Operand.tmp 11) (Operand.tmp 13) _, type := _, pos := _, after := _, guard := none }) (v := .bool false) rfl (by kernel_rfl) (by kernel_rfl) (by kernel_rfl) (fun _ _ _ h => h) (Or.inl ⟨by rfl, fun wx hx => exec_eq _ _ (.tmp 11) (.tmp 13) _ _ _ _ _ rfl rfl rfl grdI (unhide HEQ wx)⟩) HS ?_
    simp only [Act.put, List.setIfInBounds_toArray, List.set_cons_zero, List.set_cons_succ]
    refine wpAnyH_take (i := 4) (oi := { dst := some 15, op := Op.move (Operand.tmp 14), type := _, pos := _, after := _, guard := none }) (v := .bool false) rfl (by kernel_rfl) (by kernel_rfl) (by kernel_rfl) (fun _ _ _ h => h) (Or.inl ⟨by rfl, fun _ _ => rfl⟩) HS ?_
    simp only [Act.put, List.setIfInBounds_toArray, List.set_cons_zero, List.set_cons_succ]
    refine wpAnyH_take (i := 5) (oi := { dst := some 16, op := Op.load _ (Operand.tmp 2), type := _, pos := _, after := _, guard := some (4, true) }) (v := undef) rfl (by kernel_rfl) (by kernel_rfl) (by kernel_rfl) (fun _ _ _ h => h) (Or.inr ⟨by rfl, rfl⟩) HS ?_
    simp only [Act.put, List.setIfInBounds_toArray, List.set_cons_zero, List.set_cons_succ]
    refine wpAnyH_take (i := 6) (oi := { dst := some 17, op := Op.load _ (Operand.tmp 5), type := _, pos := _, after := _, guard := some (4, true) }) (v := undef) rfl (by kernel_rfl) (by kernel_rfl) (by kernel_rfl) (fun _ _ _ h => h) (Or.inr ⟨by rfl, rfl⟩) HS ?_
    simp only [Act.put, List.setIfInBounds_toArray, List.set_cons_zero, List.set_cons_succ]
    refine wpAnyH_take (i := 7) (oi := { dst := some 18, op := Op.call { callee := Callee.value (Operand.func _), args := #[Operand.tmp 16, Operand.tmp 17], argTypes := _ }, type := _, pos := _, after := _, guard := some (4, true) }) (v := undef) rfl (by kernel_rfl) (by kernel_rfl) (by kernel_rfl) (fun _ _ _ h => h) (Or.inr ⟨by rfl, rfl⟩) HS ?_
    simp only [Act.put, List.setIfInBounds_toArray, List.set_cons_zero, List.set_cons_succ]
    refine wpAnyH_take (i := 8) (oi := { dst := some 19, op := Op.pick (Operand.tmp 15) (Operand.tmp 18) (Operand.const (Value.bool false)), type := _, pos := _, after := _, guard := none }) (v := .bool false) rfl (by kernel_rfl) (by kernel_rfl) (by kernel_rfl) (fun _ _ _ h => h) (Or.inl ⟨by rfl, fun _ _ => rfl⟩) HS ?_
    simp only [Act.put, List.setIfInBounds_toArray, List.set_cons_zero, List.set_cons_succ]
    refine wpAnyH_take (i := 9) (oi := { dst := some 20, op := Op.move (Operand.tmp 19), type := _, pos := _, after := _, guard := none }) (v := .bool false) rfl (by kernel_rfl) (by kernel_rfl) (by kernel_rfl) (fun _ _ _ h => h) (Or.inl ⟨by rfl, fun _ _ => rfl⟩) HS ?_
    simp only [Act.put, List.setIfInBounds_toArray, List.set_cons_zero, List.set_cons_succ]
    refine wpAnyH_take (i := 10) (oi := { dst := some 21, op := Op.load _ (Operand.tmp 2), type := _, pos := _, after := _, guard := some (9, true) }) (v := undef) rfl (by kernel_rfl) (by kernel_rfl) (by kernel_rfl) (fun _ _ _ h => h) (Or.inr ⟨by rfl, rfl⟩) HS ?_
    simp only [Act.put, List.setIfInBounds_toArray, List.set_cons_zero, List.set_cons_succ]
    refine wpAnyH_take (i := 11) (oi := { dst := some 22, op := Op.move (Operand.tmp 1), type := _, pos := _, after := _, guard := some (9, true) }) (v := undef) rfl (by kernel_rfl) (by kernel_rfl) (by kernel_rfl) (fun _ _ _ h => h) (Or.inr ⟨by rfl, rfl⟩) HS ?_
    simp only [Act.put, List.setIfInBounds_toArray, List.set_cons_zero, List.set_cons_succ]
    refine wpAnyH_take (i := 12) (oi := { dst := some 23, op := Op.call { callee := Callee.value (Operand.func _), args := #[Operand.tmp 21, Operand.tmp 22], argTypes := _ }, type := _, pos := _, after := _, guard := some (9, true) }) (v := undef) rfl (by kernel_rfl) (by kernel_rfl) (by kernel_rfl) (fun _ _ _ h => h) (Or.inr ⟨by rfl, rfl⟩) HS ?_
    simp only [Act.put, List.setIfInBounds_toArray, List.set_cons_zero, List.set_cons_succ]
    refine wpAnyH_take (i := 13) (oi := { dst := some 24, op := Op.pick (Operand.tmp 20) (Operand.tmp 23) (Operand.const (Value.bool false)), type := _, pos := _, after := _, guard := none }) (v := .bool false) rfl (by kernel_rfl) (by kernel_rfl) (by kernel_rfl) (fun _ _ _ h => h) (Or.inl ⟨by rfl, fun _ _ => rfl⟩) HS ?_
    simp only [Act.put, List.setIfInBounds_toArray, List.set_cons_zero, List.set_cons_succ]
    refine wpAnyH_take (i := 14) (oi := { dst := some 4, op := Op.assign (Operand.tmp 24), type := _, pos := _, after := _, guard := none }) (v := .bool false) rfl (by kernel_rfl) (by kernel_rfl) (by kernel_rfl) (fun _ _ _ h => h) (Or.inl ⟨by rfl, fun _ _ => rfl⟩) HS ?_
    simp only [Act.put, List.setIfInBounds_toArray, List.set_cons_zero, List.set_cons_succ]
    refine wpAnyH_done (by kernel_rfl) ?_ _
    refine NoPanic.normal ?_
    have HX9 := hide ((unhide HX).trans HS)
    go_wp2
    go_ret
    rw [unhide EQ]
    exact ⟨rfl, unhide HX9⟩
  case true =>
  cases rb
  case false =>
    have EQ : Hid (y = false) := by rw [Hid, unhide E]; rfl
    clear E HFL
    refine wp_region_noPanic ?_
    refine wp_region_held_drew (S := fun wx => Ext w2 wx) (by kernel_rfl) ((Ext.refl _).drew) (fun HS => ?_)
    refine wpAnyH_take (i := 0) (oi := { dst := some 11, op := Op.load _ (Operand.tmp 5), type := _, pos := _, after := _, guard := none }) (v := .agg (insA I)) rfl (by kernel_rfl) (by kernel_rfl) (by kernel_rfl) (fun _ _ _ h => h) (yieldsIf_load_mid (by rfl) 39 (.tmp 5) rfl (w.heap.size + 1) 0 rfl (insA I).toList _ (fun wx hx => ((unhide HI).ext hx).rng) Try.underlying39 rfl size16) HS ?_
    simp only [Act.put, List.setIfInBounds_toArray, List.set_cons_zero, List.set_cons_succ]
    refine wpAnyH_take (i := 1) (oi := { dst := some 12, op := Op.load _ (Operand.tmp 5), type := _, pos := _, after := _, guard := none }) (v := .agg (insA I)) rfl (by kernel_rfl) (by kernel_rfl) (by kernel_rfl) (fun _ _ _ h => h) (yieldsIf_load_mid (by rfl) 39 (.tmp 5) rfl (w.heap.size + 1) 0 rfl (insA I).toList _ (fun wx hx => ((unhide HI).ext hx).rng) Try.underlying39 rfl size16) HS ?_
    simp only [Act.put, List.setIfInBounds_toArray, List.set_cons_zero, List.set_cons_succ]
    refine wpAnyH_ready (rs := [2]) (by kernel_rfl) (by simp) (AllReadyH.cons (o := { dst := some 13, op := Op.call { callee := Callee.value (Operand.func _), args := #[Operand.tmp 12], argTypes := _ }, type := _, pos := _, after := _, guard := none }) rfl (fun KK hK => ?_) AllReadyH.nil)
    go_simp
    refine (just_any I _).mono ?_
    rintro e ws ⟨rfl, hxs⟩
    have HS2 := Ext.trans HS hxs
    clear hxs HS
    have HS := HS2
    clear HS2
    refine hK.out _ _ HS (fun _ => ?_)
    clear hK KK
    try simp only [Act.put, List.setIfInBounds_toArray, List.set_cons_zero, List.set_cons_succ]
    refine wpAnyH_take (i := 3) (oi := { dst := some 14, op := Op.binOp BinOp.eql _ (Operand.tmp 11) (Operand.tmp 13) _, type := _, pos := _, after := _, guard := none }) (v := .bool true) rfl (by kernel_rfl) (by kernel_rfl) (by kernel_rfl) (fun _ _ _ h => h) (Or.inl ⟨by rfl, fun wx hx => exec_eq _ _ (.tmp 11) (.tmp 13) _ _ _ _ _ rfl rfl rfl grdI (unhide HEQ wx)⟩) HS ?_
    simp only [Act.put, List.setIfInBounds_toArray, List.set_cons_zero, List.set_cons_succ]
    refine wpAnyH_take (i := 4) (oi := { dst := some 15, op := Op.move (Operand.tmp 14), type := _, pos := _, after := _, guard := none }) (v := .bool true) rfl (by kernel_rfl) (by kernel_rfl) (by kernel_rfl) (fun _ _ _ h => h) (Or.inl ⟨by rfl, fun _ _ => rfl⟩) HS ?_
    simp only [Act.put, List.setIfInBounds_toArray, List.set_cons_zero, List.set_cons_succ]
    refine wpAnyH_take (i := 5) (oi := { dst := some 16, op := Op.load _ (Operand.tmp 2), type := _, pos := _, after := _, guard := some (4, true) }) (v := .agg #[.int .i64 (C).stage, .slice (some ⟨b, off, none⟩) n cap, .int .i64 (C).regs, .int .i64 (C).attr, .int .i64 (C).unif, .int .i64 (C).vary]) rfl (by kernel_rfl) (by kernel_rfl) (by kernel_rfl) (fun _ _ _ h => h) (yieldsIf_load_mid (by rfl) 26 (.tmp 2) rfl w.heap.size 0 rfl [.int .i64 C.stage, .slice (some ⟨b, off, none⟩) n cap, .int .i64 C.regs, .int .i64 C.attr, .int .i64 C.unif, .int .i64 C.vary] _ (fun wx hx => ((unhide HC).ext hx).rng) Try.underlying26 rfl size6) HS ?_
    simp only [Act.put, List.setIfInBounds_toArray, List.set_cons_zero, List.set_cons_succ]
    refine wpAnyH_take (i := 6) (oi := { dst := some 17, op := Op.load _ (Operand.tmp 5), type := _, pos := _, after := _, guard := some (4, true) }) (v := .agg (insA I)) rfl (by kernel_rfl) (by kernel_rfl) (by kernel_rfl) (fun _ _ _ h => h) (yieldsIf_load_mid (by rfl) 39 (.tmp 5) rfl (w.heap.size + 1) 0 rfl (insA I).toList _ (fun wx hx => ((unhide HI).ext hx).rng) Try.underlying39 rfl size16) HS ?_
    simp only [Act.put, List.setIfInBounds_toArray, List.set_cons_zero, List.set_cons_succ]
    refine wpAnyH_ready (rs := [7]) (by kernel_rfl) (by simp) (AllReadyH.cons (o := { dst := some 18, op := Op.call { callee := Callee.value (Operand.func _), args := #[Operand.tmp 16, Operand.tmp 17], argTypes := _ }, type := _, pos := _, after := _, guard := some (4, true) }) rfl (fun KK hK => ?_) AllReadyH.nil)
    go_simp
    refine (unhide HRG _).mono ?_
    rintro e ws ⟨rfl, hxs⟩
    have HS2 := Ext.trans HS hxs
    clear hxs HS
    have HS := HS2
    clear HS2
    refine hK.out _ _ HS (fun _ => ?_)
    clear hK KK
    try simp only [Act.put, List.setIfInBounds_toArray, List.set_cons_zero, List.set_cons_succ]
    refine wpAnyH_take (i := 8) (oi := { dst := some 19, op := Op.pick (Operand.tmp 15) (Operand.tmp 18) (Operand.const (Value.bool false)), type := _, pos := _, after := _, guard := none }) (v := .bool false) rfl (by kernel_rfl) (by kernel_rfl) (by kernel_rfl) (fun _ _ _ h => h) (Or.inl ⟨by rfl, fun _ _ => rfl⟩) HS ?_
    simp only [Act.put, List.setIfInBounds_toArray, List.set_cons_zero, List.set_cons_succ]
    refine wpAnyH_take (i := 9) (oi := { dst := some 20, op := Op.move (Operand.tmp 19), type := _, pos := _, after := _, guard := none }) (v := .bool false) rfl (by kernel_rfl) (by kernel_rfl) (by kernel_rfl) (fun _ _ _ h => h) (Or.inl ⟨by rfl, fun _ _ => rfl⟩) HS ?_
    simp only [Act.put, List.setIfInBounds_toArray, List.set_cons_zero, List.set_cons_succ]
    refine wpAnyH_take (i := 10) (oi := { dst := some 21, op := Op.load _ (Operand.tmp 2), type := _, pos := _, after := _, guard := some (9, true) }) (v := undef) rfl (by kernel_rfl) (by kernel_rfl) (by kernel_rfl) (fun _ _ _ h => h) (Or.inr ⟨by rfl, rfl⟩) HS ?_
    simp only [Act.put, List.setIfInBounds_toArray, List.set_cons_zero, List.set_cons_succ]
    refine wpAnyH_take (i := 11) (oi := { dst := some 22, op := Op.move (Operand.tmp 1), type := _, pos := _, after := _, guard := some (9, true) }) (v := undef) rfl (by kernel_rfl) (by kernel_rfl) (by kernel_rfl) (fun _ _ _ h => h) (Or.inr ⟨by rfl, rfl⟩) HS ?_
    simp only [Act.put, List.setIfInBounds_toArray, List.set_cons_zero, List.set_cons_succ]
    refine wpAnyH_take (i := 12) (oi := { dst := some 23, op := Op.call { callee := Callee.value (Operand.func _), args := #[Operand.tmp 21, Operand.tmp 22], argTypes := _ }, type := _, pos := _, after := _, guard := some (9, true) }) (v := undef) rfl (by kernel_rfl) (by kernel_rfl) (by kernel_rfl) (fun _ _ _ h => h) (Or.inr ⟨by rfl, rfl⟩) HS ?_
    simp only [Act.put, List.setIfInBounds_toArray, List.set_cons_zero, List.set_cons_succ]
    refine wpAnyH_take (i := 13) (oi := { dst := some 24, op := Op.pick (Operand.tmp 20) (Operand.tmp 23) (Operand.const (Value.bool false)), type := _, pos := _, after := _, guard := none }) (v := .bool false) rfl (by kernel_rfl) (by kernel_rfl) (by kernel_rfl) (fun _ _ _ h => h) (Or.inl ⟨by rfl, fun _ _ => rfl⟩) HS ?_
    simp only [Act.put, List.setIfInBounds_toArray, List.set_cons_zero, List.set_cons_succ]
    refine wpAnyH_take (i := 14) (oi := { dst := some 4, op := Op.assign (Operand.tmp 24), type := _, pos := _, after := _, guard := none }) (v := .bool false) rfl (by kernel_rfl) (by kernel_rfl) (by kernel_rfl) (fun _ _ _ h => h) (Or.inl ⟨by rfl, fun _ _ => rfl⟩) HS ?_
    simp only [Act.put, List.setIfInBounds_toArray, List.set_cons_zero, List.set_cons_succ]
    refine wpAnyH_done (by kernel_rfl) ?_ _
    refine NoPanic.normal ?_
    have HX9 := hide ((unhide HX).trans HS)
    go_wp2
    go_ret
    rw [unhide EQ]
    exact ⟨rfl, unhide HX9⟩
  case true =>
    have EQ : Hid (y = fb) := by rw [Hid, unhide E]; rfl
    clear E
    refine wp_region_noPanic ?_
    refine wp_region_held_drew (S := fun wx => Ext w2 wx) (by kernel_rfl) ((Ext.refl _).drew) (fun HS => ?_)
    refine wpAnyH_take (i := 0) (oi := { dst := some 11, op := Op.load _ (Operand.tmp 5), type := _, pos := _, after := _, guard := none }) (v := .agg (insA I)) rfl (by kernel_rfl) (by kernel_rfl) (by kernel_rfl) (fun _ _ _ h => h) (yieldsIf_load_mid (by rfl) 39 (.tmp 5) rfl (w.heap.size + 1) 0 rfl (insA I).toList _ (fun wx hx => ((unhide HI).ext hx).rng) Try.underlying39 rfl size16) HS ?_
    simp only [Act.put, List.setIfInBounds_toArray, List.set_cons_zero, List.set_cons_succ]
    refine wpAnyH_take (i := 1) (oi := { dst := some 12, op := Op.load _ (Operand.tmp 5), type := _, pos := _, after := _, guard := none }) (v := .agg (insA I)) rfl (by kernel_rfl) (by kernel_rfl) (by kernel_rfl) (fun _ _ _ h => h) (yieldsIf_load_mid (by rfl) 39 (.tmp 5) rfl (w.heap.size + 1) 0 rfl (insA I).toList _ (fun wx hx => ((unhide HI).ext hx).rng) Try.underlying39 rfl size16) HS ?_
    simp only [Act.put, List.setIfInBounds_toArray, List.set_cons_zero, List.set_cons_succ]
    refine wpAnyH_ready (rs := [2]) (by kernel_rfl) (by simp) (AllReadyH.cons (o := { dst := some 13, op := Op.call { callee := Callee.value (Operand.func _), args := #[Operand.tmp 12], argTypes := _ }, type := _, pos := _, after := _, guard := none }) rfl (fun KK hK => ?_) AllReadyH.nil)
    go_simp
    refine (just_any I _).mono ?_
    rintro e ws ⟨rfl, hxs⟩
    have HS2 := Ext.trans HS hxs
    clear hxs HS
    have HS := HS2
    clear HS2
    refine hK.out _ _ HS (fun _ => ?_)
    clear hK KK
    try simp only [Act.put, List.setIfInBounds_toArray, List.set_cons_zero, List.set_cons_succ]
    refine wpAnyH_take (i := 3) (oi := { dst := some 14, op := Op.binOp BinOp.eql _ (Operand.tmp 11) (Operand.tmp 13) _, type := _, pos := _, after := _, guard := none }) (v := .bool true) rfl (by kernel_rfl) (by kernel_rfl) (by kernel_rfl) (fun _ _ _ h => h) (Or.inl ⟨by rfl, fun wx hx => exec_eq _ _ (.tmp 11) (.tmp 13) _ _ _ _ _ rfl rfl rfl grdI (unhide HEQ wx)⟩) HS ?_
    simp only [Act.put, List.setIfInBounds_toArray, List.set_cons_zero, List.set_cons_succ]
    refine wpAnyH_take (i := 4) (oi := { dst := some 15, op := Op.move (Operand.tmp 14), type := _, pos := _, after := _, guard := none }) (v := .bool true) rfl (by kernel_rfl) (by kernel_rfl) (by kernel_rfl) (fun _ _ _ h => h) (Or.inl ⟨by rfl, fun _ _ => rfl⟩) HS ?_
    simp only [Act.put, List.setIfInBounds_toArray, List.set_cons_zero, List.set_cons_succ]
    refine wpAnyH_take (i := 5) (oi := { dst := some 16, op := Op.load _ (Operand.tmp 2), type := _, pos := _, after := _, guard := some (4, true) }) (v := .agg #[.int .i64 (C).stage, .slice (some ⟨b, off, none⟩) n cap, .int .i64 (C).regs, .int .i64 (C).attr, .int .i64 (C).unif, .int .i64 (C).vary]) rfl (by kernel_rfl) (by kernel_rfl) (by kernel_rfl) (fun _ _ _ h => h) (yieldsIf_load_mid (by rfl) 26 (.tmp 2) rfl w.heap.size 0 rfl [.int .i64 C.stage, .slice (some ⟨b, off, none⟩) n cap, .int .i64 C.regs, .int .i64 C.attr, .int .i64 C.unif, .int .i64 C.vary] _ (fun wx hx => ((unhide HC).ext hx).rng) Try.underlying26 rfl size6) HS ?_
    simp only [Act.put, List.setIfInBounds_toArray, List.set_cons_zero, List.set_cons_succ]
    refine wpAnyH_take (i := 6) (oi := { dst := some 17, op := Op.load _ (Operand.tmp 5), type := _, pos := _, after := _, guard := some (4, true) }) (v := .agg (insA I)) rfl (by kernel_rfl) (by kernel_rfl) (by kernel_rfl) (fun _ _ _ h => h) (yieldsIf_load_mid (by rfl) 39 (.tmp 5) rfl (w.heap.size + 1) 0 rfl (insA I).toList _ (fun wx hx => ((unhide HI).ext hx).rng) Try.underlying39 rfl size16) HS ?_
    simp only [Act.put, List.setIfInBounds_toArray, List.set_cons_zero, List.set_cons_succ]
    refine wpAnyH_ready (rs := [7]) (by kernel_rfl) (by simp) (AllReadyH.cons (o := { dst := some 18, op := Op.call { callee := Callee.value (Operand.func _), args := #[Operand.tmp 16, Operand.tmp 17], argTypes := _ }, type := _, pos := _, after := _, guard := some (4, true) }) rfl (fun KK hK => ?_) AllReadyH.nil)
    go_simp
    refine (unhide HRG _).mono ?_
    rintro e ws ⟨rfl, hxs⟩
    have HS2 := Ext.trans HS hxs
    clear hxs HS
    have HS := HS2
    clear HS2
    refine hK.out _ _ HS (fun _ => ?_)
    clear hK KK
    try simp only [Act.put, List.setIfInBounds_toArray, List.set_cons_zero, List.set_cons_succ]
    refine wpAnyH_take (i := 8) (oi := { dst := some 19, op := Op.pick (Operand.tmp 15) (Operand.tmp 18) (Operand.const (Value.bool false)), type := _, pos := _, after := _, guard := none }) (v := .bool true) rfl (by kernel_rfl) (by kernel_rfl) (by kernel_rfl) (fun _ _ _ h => h) (Or.inl ⟨by rfl, fun _ _ => rfl⟩) HS ?_
    simp only [Act.put, List.setIfInBounds_toArray, List.set_cons_zero, List.set_cons_succ]
    refine wpAnyH_take (i := 9) (oi := { dst := some 20, op := Op.move (Operand.tmp 19), type := _, pos := _, after := _, guard := none }) (v := .bool true) rfl (by kernel_rfl) (by kernel_rfl) (by kernel_rfl) (fun _ _ _ h => h) (Or.inl ⟨by rfl, fun _ _ => rfl⟩) HS ?_
    simp only [Act.put, List.setIfInBounds_toArray, List.set_cons_zero, List.set_cons_succ]
    refine wpAnyH_take (i := 10) (oi := { dst := some 21, op := Op.load _ (Operand.tmp 2), type := _, pos := _, after := _, guard := some (9, true) }) (v := .agg #[.int .i64 (C).stage, .slice (some ⟨b, off, none⟩) n cap, .int .i64 (C).regs, .int .i64 (C).attr, .int .i64 (C).unif, .int .i64 (C).vary]) rfl (by kernel_rfl) (by kernel_rfl) (by kernel_rfl) (fun _ _ _ h => h) (yieldsIf_load_mid (by rfl) 26 (.tmp 2) rfl w.heap.size 0 rfl [.int .i64 C.stage, .slice (some ⟨b, off, none⟩) n cap, .int .i64 C.regs, .int .i64 C.attr, .int .i64 C.unif, .int .i64 C.vary] _ (fun wx hx => ((unhide HC).ext hx).rng) Try.underlying26 rfl size6) HS ?_
    simp only [Act.put, List.setIfInBounds_toArray, List.set_cons_zero, List.set_cons_succ]
    refine wpAnyH_take (i := 11) (oi := { dst := some 22, op := Op.move (Operand.tmp 1), type := _, pos := _, after := _, guard := some (9, true) }) (v := .int .i64 (k : Int)) rfl (by kernel_rfl) (by kernel_rfl) (by kernel_rfl) (fun _ _ _ h => h) (Or.inl ⟨by rfl, fun _ _ => rfl⟩) HS ?_
    simp only [Act.put, List.setIfInBounds_toArray, List.set_cons_zero, List.set_cons_succ]
    refine wpAnyH_ready (rs := [12]) (by kernel_rfl) (by simp) (AllReadyH.cons (o := { dst := some 23, op := Op.call { callee := Callee.value (Operand.func _), args := #[Operand.tmp 21, Operand.tmp 22], argTypes := _ }, type := _, pos := _, after := _, guard := some (9, true) }) rfl (fun KK hK => ?_) AllReadyH.nil)
    go_simp
    refine (unhide HFL _ HS).mono ?_
    rintro e ws ⟨rfl, hxs⟩
    have HS2 := Ext.trans HS hxs
    clear hxs HS
    have HS := HS2
    clear HS2
    refine hK.out _ _ HS (fun _ => ?_)
    clear hK KK
    try simp only [Act.put, List.setIfInBounds_toArray, List.set_cons_zero, List.set_cons_succ]
    refine wpAnyH_take (i := 13) (oi := { dst := some 24, op := Op.pick (Operand.tmp 20) (Operand.tmp 23) (Operand.const (Value.bool false)), type := _, pos := _, after := _, guard := none }) (v := .bool fb) rfl (by kernel_rfl) (by kernel_rfl) (by kernel_rfl) (fun _ _ _ h => h) (Or.inl ⟨by rfl, fun _ _ => rfl⟩) HS ?_
    simp only [Act.put, List.setIfInBounds_toArray, List.set_cons_zero, List.set_cons_succ]
    refine wpAnyH_take (i := 14) (oi := { dst := some 4, op := Op.assign (Operand.tmp 24), type := _, pos := _, after := _, guard := none }) (v := .bool fb) rfl (by kernel_rfl) (by kernel_rfl) (by kernel_rfl) (fun _ _ _ h => h) (Or.inl ⟨by rfl, fun _ _ => rfl⟩) HS ?_
    simp only [Act.put, List.setIfInBounds_toArray, List.set_cons_zero, List.set_cons_succ]
    refine wpAnyH_done (by kernel_rfl) ?_ _
    refine NoPanic.normal ?_
    have HX9 := hide ((unhide HX).trans HS)
    go_wp2
    go_ret
    rw [unhide EQ]
    exact ⟨rfl, unhide HX9⟩

set_option maxRecDepth 10000 in
set_option maxHeartbeats 4000000 in
theorem may_any (C : Cod) (v : Value) (w : World) (h : IR w v C.ins) : Calls Try.prog 23 #[.agg #[.int .i64 (C).stage, v, .int .i64 (C).regs, .int .i64 (C).attr, .int .i64 (C).unif, .int .i64 (C).vary]] w fun e w' => e = .returned (.bool (mayP C)) ∧ Ext w w' := by
  have E : Hid (mayP C = (headB C && (decide (C.ins.length ≤ 4096) && mayTo C C.ins.length))) := rfl
  generalize mayP C = y at *
  have HV := hide h
  obtain ⟨ao, cap, rfl, hn0, hlc, hcm, hat⟩ := h
  have HH := hide (fun wx => head_any C (.slice ao C.ins.length cap) wx)
  have HI := hide (fun k (hk : k < C.ins.length) wx (hx : Ext w wx) => ins_any C _ C.ins k wx ((unhide HV).ext hx) hk)
  have HB := hide (Blk.new w #[.int .i64 (C).stage, .slice ao C.ins.length cap, .int .i64 (C).regs, .int .i64 (C).attr, .int .i64 (C).unif, .int .i64 (C).vary] 26)
  have HX := hide ((Ext.refl w).alloc (.cells #[.int .i64 (C).stage, .slice ao C.ins.length cap, .int .i64 (C).regs, .int .i64 (C).attr, .int .i64 (C).unif, .int .i64 (C).vary] 26))
  unfold maxLen at hcm
  clear hat hn0
  go_enter Try.func23, Try.ntmps23
  go_wp2_with (first
    | refine wpList_load_row rfl 26 (.tmp 1) rfl w.heap.size rfl 26 #[.int .i64 (C).stage, .slice ao C.ins.length cap, .int .i64 (C).regs, .int .i64 (C).attr, .int .i64 (C).unif, .int .i64 (C).vary] (0, 0) _ (unhide HB) Try.underlying26 rfl size6 ?_
    | (go_at_call 9999))
  refine (unhide HH _).mono ?_
  rintro e w2 ⟨rfl, hx2⟩
  have HB2 := hide ((unhide HB).ext hx2)
  have HX2 := hide ((unhide HX).trans hx2)
  obtain ⟨_, c1, _, _, _, _⟩ := cellC (unhide HB2)
  clear hx2 HB HX HH
  cases hh : headB C
  case false =>
    have EQ : Hid (y = false) := by rw [Hid, unhide E, hh]; rfl
    go_wp2
    go_ret
    rw [unhide EQ]
    exact ⟨rfl, unhide HX2⟩
  case true =>
  by_cases hn : C.ins.length ≤ 4096
  case neg =>
    have EQ : Hid (y = false) := by rw [Hid, unhide E, hh, decide_eq_false hn]; rfl
    have hn' : (4096 : Int) < (C.ins.length : Int) := by omega
    go_wp2
    go_ret
    rw [unhide EQ]
    exact ⟨rfl, unhide HX2⟩
  case pos =>
  have EQ : Hid (y = mayTo C C.ins.length) := by rw [Hid, unhide E, hh, decide_eq_true hn]; rfl
  have hn' : ¬ (4096 : Int) < (C.ins.length : Int) := by omega
  clear E
  go_wp2
  go_loopw [16] (fun iv wr => ∃ k : Nat, k ≤ C.ins.length ∧ iv = .int .i64 (k : Int) ∧ Ext w2 wr ∧ mayTo C k = true) (fun iv _ => C.ins.length - (intOf iv).toNat)
  case atStart => exact ⟨0, Nat.zero_le _, rfl, Ext.refl _, rfl⟩
  case round =>
    obtain ⟨k, hk, rfl, hx, hm⟩ := hrel
    have X := hide hx
    have M := hide hm
    clear hx hm
    by_cases hlt : k < C.ins.length
    · have HB3 := hide ((unhide HB2).ext (unhide X))
      have HX3 := hide ((unhide HX2).trans (unhide X))
      have HS := hide (mayTo_succ C k)
      have HF := hide (fun h => mayTo_false (C := C) (k := k) (n := C.ins.length) h hlt)
      rw [show C.ins.getD k zI = C.ins[k] by simp [hlt]] at HS HF
      have HC := hide (unhide HI k hlt wr (unhide HX3))
      generalize insB C C.ins.length k C.ins[k] = q at *
      clear c1
      go_wp2_with (first
        | refine wpList_load_row rfl 26 (.tmp 1) rfl w.heap.size rfl 26 #[.int .i64 (C).stage, .slice ao C.ins.length cap, .int .i64 (C).regs, .int .i64 (C).attr, .int .i64 (C).unif, .int .i64 (C).vary] (0, 0) _ (unhide HB3) Try.underlying26 rfl size6 ?_
        | (go_at_call 9999))
      refine (unhide HC).mono ?_
      rintro e w5 ⟨rfl, hx5⟩
      have X5 := hide ((unhide X).trans hx5)
      clear hx5
      cases q
      case false =>
        go_wp2
        go_ret
        rw [unhide EQ, unhide HF (by first | rfl | trivial)]
        exact ⟨rfl, (unhide HX2).trans (unhide X5)⟩
      case true =>
        go_wp2
        go_roundw
        case rel => exact ⟨k + 1, by omega, by go_num, unhide X5, by rw [unhide HS, unhide M]; rfl⟩
        case measure => simp [intOf]; omega
    · obtain rfl : k = C.ins.length := by omega
      go_wp2
      go_ret
      rw [unhide EQ, unhide M]
      exact ⟨rfl, (unhide HX2).trans (unhide X)⟩

def chkI (b : Bool) : Int := if b then 0 else 260
set_option maxRecDepth 10000 in
set_option maxHeartbeats 2000000 in
theorem check_any (C : Cod) (v : Value) (w : World) (h : IR w v C.ins) : Calls Try.prog 12 #[.agg #[.int .i64 (C).stage, v, .int .i64 (C).regs, .int .i64 (C).attr, .int .i64 (C).unif, .int .i64 (C).vary]] w fun e w' => e = .returned (.int .i64 (chkI (mayP C))) ∧ Ext w w' := by
  have HV := hide h
  obtain ⟨ao, cap, rfl, hn0, hlc, hcm, hat⟩ := h
  have HM := hide (fun wx (hx : Ext w wx) => may_any C _ wx ((unhide HV).ext hx))
  have HB := hide (Blk.new w #[.int .i64 (C).stage, .slice ao C.ins.length cap, .int .i64 (C).regs, .int .i64 (C).attr, .int .i64 (C).unif, .int .i64 (C).vary] 26)
  have HX := hide ((Ext.refl w).alloc (.cells #[.int .i64 (C).stage, .slice ao C.ins.length cap, .int .i64 (C).regs, .int .i64 (C).attr, .int .i64 (C).unif, .int .i64 (C).vary] 26))
  generalize mayP C = y at *
  clear hat hn0
  go_enter Try.func12, Try.ntmps12
  go_wp2_with (first
    | refine wpList_load_row rfl 26 (.tmp 1) rfl w.heap.size rfl 26 #[.int .i64 (C).stage, .slice ao C.ins.length cap, .int .i64 (C).regs, .int .i64 (C).attr, .int .i64 (C).unif, .int .i64 (C).vary] (0, 0) _ (unhide HB) Try.underlying26 rfl size6 ?_
    | (go_at_call 9999))
  refine (unhide HM _ (unhide HX)).mono ?_
  rintro e w2 ⟨rfl, hx2⟩
  have X2 := hide ((unhide HX).trans hx2)
  clear hx2 HX HB
  cases y
  all_goals
    go_wp2
    go_ret
    exact ⟨rfl, unhide X2⟩
end Go.Proofs.Ytfoffnbkfnbglaa
