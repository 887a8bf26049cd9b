/- Several texts in one. -/
import Derived.Test.YtglfhmlcmffoaaaGreatCB
import Derived.Test.YtglfhmlcmffoaaaGreatCJeJ
import Derived.Test.YtglfhmlcmffoaaaGreatCI
import Derived.Test.YtglfhmlcmffoaaaGreatVPlJ
import Derived.OwnWalk
import Derived.Test.YtglfhmlcmffoaaaGreatLemJ
/-
  '==' of two instructions, of two rows of seven numbers. What the dump lacks is left out.
-/
namespace Go.Proofs.YtglfhmlcmffoaaaGreat
open Go.RowKit
set_option linter.unusedVariables false
set_option linter.unusedSimpArgs false

theorem eqInt (d : Nat) (a b : Int) (w : World) : (Op.equalIn (d + 1) 3 (.int .i64 a) (.int .i64 b)).run Tryz.prog w = .ok (a == b) w := by
  rw [Op.equalIn]
  simp only [Sem.run_bind, run_underlying Tryz.underlying3, Result.andThen_ok]
  go_simp
theorem eqFix (d : Nat) (a b : Int) (w : World) : (Op.equalIn (d + 1) 26 (.int .i32 a) (.int .i32 b)).run Tryz.prog w = .ok (a == b) w := by
  rw [Op.equalIn]
  simp only [Sem.run_bind, run_underlying Tryz.underlying26, Result.andThen_ok]
  go_simp
theorem eqVec (d : Nat) (x0 x1 x2 x3 y0 y1 y2 y3 : Int) (w : World) : (Op.equalIn (d + 2) 28 (.agg #[.int .i32 x0, .int .i32 x1, .int .i32 x2, .int .i32 x3]) (.agg #[.int .i32 y0, .int .i32 y1, .int .i32 y2, .int .i32 y3])).run Tryz.prog w = .ok (x0 == y0 && (x1 == y1 && (x2 == y2 && x3 == y3))) w := by
  have u3 := Tryz.underlying26
  have a3 := Tryz.isAgg26
  have z3 := Tryz.sizeOf26
  have e := fun a b => eqFix d a b w
  rw [show d + 2 = (d + 1) + 1 from rfl, Op.equalIn]
  simp only [Sem.run_bind, run_underlying Tryz.underlying28, Result.andThen_ok]
  simp only [Std.Legacy.Range.forIn_eq_forIn_range', Std.Legacy.Range.size, Nat.sub_zero, Nat.add_sub_cancel, Nat.div_one, List.range'_succ, List.range'_zero, List.forIn_cons, List.forIn_nil]
  go_simp
  by_cases h1 : x0 = y0 <;> by_cases h2 : x1 = y1 <;> by_cases h3 : x2 = y2 <;> by_cases h4 : x3 = y3 <;> simp [h1, h2, h3, h4]
theorem eqPl (d : Nat) (x0 x1 x2 x3 y0 y1 y2 y3 : Int) (w : World) : (Op.equalIn (d + 2) 57 (.agg #[.int .i64 x0, .int .i64 x1, .int .i64 x2, .int .i64 x3]) (.agg #[.int .i64 y0, .int .i64 y1, .int .i64 y2, .int .i64 y3])).run Tryz.prog w = .ok (x0 == y0 && (x1 == y1 && (x2 == y2 && x3 == y3))) w := by
  have u3 := Tryz.underlying3
  have a3 := Tryz.isAgg3
  have z3 := Tryz.sizeOf3
  have e := fun a b => eqInt d a b w
  rw [show d + 2 = (d + 1) + 1 from rfl, Op.equalIn]
  simp only [Sem.run_bind, run_underlying Tryz.underlying57, Result.andThen_ok]
  simp only [Std.Legacy.Range.forIn_eq_forIn_range', Std.Legacy.Range.size, Nat.sub_zero, Nat.add_sub_cancel, Nat.div_one, List.range'_succ, List.range'_zero, List.forIn_cons, List.forIn_nil]
  go_simp
  by_cases h1 : x0 = y0 <;> by_cases h2 : x1 = y1 <;> by_cases h3 : x2 = y2 <;> by_cases h4 : x3 = y3 <;> simp [h1, h2, h3, h4]

set_option maxRecDepth 10000 in
set_option maxHeartbeats 4000000 in
theorem eqI (I J : Nat → Int) (w : World) : (Op.equalIn 10000 59 (.agg (insA I)) (.agg (insA J))).run Tryz.prog w = .ok (sameI I J) w := by
  have e := fun a b => eqInt 9998 a b w
  have ev := fun x0 x1 x2 x3 y0 y1 y2 y3 => eqVec 9997 x0 x1 x2 x3 y0 y1 y2 y3 w
  have ep := fun x0 x1 x2 x3 y0 y1 y2 y3 => eqPl 9997 x0 x1 x2 x3 y0 y1 y2 y3 w
  have hst : Tryz.prog.stoodInHeld 59 = false := by kernel_rfl
  have p0 : ∀ K : Nat → Int, (insA K)[0]? = some (.int .i64 (K 0)) := fun K => rfl
  have p1 : ∀ K : Nat → Int, (insA K)[1]? = some (.int .i64 (K 1)) := fun K => rfl
  have p2 : ∀ K : Nat → Int, (insA K)[2]? = some (.int .i64 (K 2)) := fun K => rfl
  have p3 : ∀ K : Nat → Int, (insA K)[3]? = some (.int .i64 (K 3)) := fun K => rfl
  have p4 : ∀ K : Nat → Int, (insA K)[4]? = some (.int .i64 (K 4)) := fun K => rfl
  have p5 : ∀ K : Nat → Int, (insA K)[5]? = some (.int .i64 (K 5)) := fun K => rfl
  have p6 : ∀ K : Nat → Int, (insA K)[6]? = some (.int .i64 (K 6)) := fun K => rfl
  have p7 : ∀ K : Nat → Int, (insA K)[7]? = some (.int .i64 (K 7)) := fun K => rfl
  unfold sameI
  rw [show (10000 : Nat) = 9999 + 1 from rfl, Op.equalIn]
  simp only [Sem.run_bind, run_underlying Tryz.underlying59, Result.andThen_ok]
  go_simp
  by_cases h0 : I 0 = J 0
  case neg => simp [h0]
  by_cases h1 : I 1 = J 1
  case neg => simp [h0, h1]
  by_cases h2 : I 2 = J 2
  case neg => simp [h0, h1, h2]
  by_cases h3 : I 3 = J 3
  case neg => simp [h0, h1, h2, h3]
  by_cases h4 : I 4 = J 4
  case neg => simp [h0, h1, h2, h3, h4]
  by_cases h5 : I 5 = J 5
  case neg => simp [h0, h1, h2, h3, h4, h5]
  by_cases h6 : I 6 = J 6
  case neg => simp [h0, h1, h2, h3, h4, h5, h6]
  by_cases h7 : I 7 = J 7
  case neg => simp [h0, h1, h2, h3, h4, h5, h6, h7]
  rw [if_pos h0, if_pos h1, if_pos h2, if_pos h3, if_pos h4, if_pos h5, if_pos h6, if_pos h7]
  have x8 : ∀ K, (insA K).extract 8 12 = #[.int .i32 (K 8), .int .i32 (K 9), .int .i32 (K 10), .int .i32 (K 11)] := fun K => rfl
  have x12 : ∀ K, (insA K).extract 12 16 = #[.int .i64 (K 12), .int .i64 (K 13), .int .i64 (K 14), .int .i64 (K 15)] := fun K => rfl
  simp only [show 9997 + 2 = 9999 from rfl] at ev ep
  simp only [x8, x12, ev, Result.andThen_ok]
  rw [h0, h1, h2, h3, h4, h5, h6, h7]
  simp only [beq_self_eq_true, Bool.true_and]
  cases (I 8 == J 8)
  · simp
  cases (I 9 == J 9)
  · simp
  cases (I 10 == J 10)
  · simp
  cases (I 11 == J 11)
  · simp
  simp only [Bool.true_and, Bool.true_eq_false, if_false, ep, Result.andThen_ok]
  cases (I 12 == J 12 && (I 13 == J 13 && (I 14 == J 14 && I 15 == J 15))) <;> simp

/-- '==' of two values of many cells, as one operation. -/
theorem exec_eq {P : Program} {w : World} (ρ : Operand → Value) (o : Oper) (x y : Operand) (t t' : TypeId) (xs ys : Array Value) (b : Bool) (ho : o.op = .binOp .eql t x y t') (hx : ρ x = .agg xs) (hy : ρ y = .agg ys)
    (hg : P.eqGuardType P.depth t = false) (he : (Op.equalIn 10000 t (.agg xs) (.agg ys)).run P w = .ok b w) : (execOp ρ o).run P w = .ok (.value (.bool b)) w := by
  simp [execOp, ho, hx, hy, eqGuard, binOp, Op.equal, Op.maxDepth, he, hg, Result.andThen]
theorem exec_ne {P : Program} {w : World} (ρ : Operand → Value) (o : Oper) (x y : Operand) (t t' : TypeId) (xs ys : Array Value) (b : Bool) (ho : o.op = .binOp .neq t x y t') (hx : ρ x = .agg xs) (hy : ρ y = .agg ys)
    (hg : P.eqGuardType P.depth t = false) (he : (Op.equalIn 10000 t (.agg xs) (.agg ys)).run P w = .ok b w) : (execOp ρ o).run P w = .ok (.value (.bool (!b))) w := by
  simp [execOp, ho, hx, hy, eqGuard, binOp, Op.equal, Op.maxDepth, he, hg, Result.andThen]
theorem grdI : Tryz.prog.eqGuardType Tryz.prog.depth 59 = false := by kernel_rfl

end Go.Proofs.YtglfhmlcmffoaaaGreat

/-
  Codes: the walks of instrMayBe, mayBe, Check. What the dump lacks is left out.
-/
namespace Go.Proofs.YtglfhmlcmffoaaaGreat
open Go.RowKit
set_option linter.unusedVariables false
set_option linter.unusedSimpArgs false

set_option maxRecDepth 10000 in
set_option maxHeartbeats 4000000 in
theorem ins_any (C : Cod) (v : Value) (L : List (Nat → Int)) (k : Nat) (w : World) (h : IR w v L) (hk : k < L.length) : Calls Tryz.prog 62 #[.agg #[.int .i64 (C).stage, v, .int .i64 (C).regs, .int .i64 (C).attr, .int .i64 (C).unif, .int .i64 (C).vary], .int .i64 (k : Int)] w fun e w' => e = .returned (.bool (insB C L.length k L[k])) ∧ Ext w w' := by
  have HV := hide h
  obtain ⟨ao, cap, rfl, hn0, hlc, hcm, hat⟩ := h
  obtain ⟨b, off, rfl, hrg⟩ := hat k hk
  have E : Hid (insB C L.length k L[k] = (sameI L[k] (justP L[k]) && (rgsB C L[k] && fldB C L.length k L[k]))) := rfl
  have HFL := hide (fun wx (hx : Ext w wx) => fields_any C _ L k wx ((unhide HV).ext hx) hk)
  have HRG := hide (fun wx => regs_any C (.slice (some ⟨b, off, none⟩) L.length cap) L[k] wx)
  generalize insB C L.length k L[k] = y at *
  generalize fldB C L.length k L[k] = fb at *
  generalize L[k] = I at *
  have HEQ := hide (fun wx => eqI I (justP I) wx)
  clear HV hat hn0
  generalize L.length = n at *
  generalize hsm : sameI I (justP I) = sm at *
  generalize hrb : rgsB C I = rb at *
  clear hsm hrb
  unfold maxLen at hcm
  have HI : Hid (Blk ((w.alloc (.cells #[.int .i64 (C).stage, .slice (some ⟨b, off, none⟩) n cap, .int .i64 (C).regs, .int .i64 (C).attr, .int .i64 (C).unif, .int .i64 (C).vary] 24)).alloc (.cells (insA I) 59)) (w.heap.size + 1) (insA I) 59) := Blk.here (by simp)
  have HC : Hid (Blk ((w.alloc (.cells #[.int .i64 (C).stage, .slice (some ⟨b, off, none⟩) n cap, .int .i64 (C).regs, .int .i64 (C).attr, .int .i64 (C).unif, .int .i64 (C).vary] 24)).alloc (.cells (insA I) 59)) w.heap.size #[.int .i64 (C).stage, .slice (some ⟨b, off, none⟩) n cap, .int .i64 (C).regs, .int .i64 (C).attr, .int .i64 (C).unif, .int .i64 (C).vary] 24) := (Blk.new w _ _).alloc _
  have HX := hide (((Ext.refl w).alloc (.cells #[.int .i64 (C).stage, .slice (some ⟨b, off, none⟩) n cap, .int .i64 (C).regs, .int .i64 (C).attr, .int .i64 (C).unif, .int .i64 (C).vary] 24)).alloc (.cells (insA I) 59))
  have HRNG := hide (rng_ext hrg ((Ext.refl w).alloc (.cells #[.int .i64 (C).stage, .slice (some ⟨b, off, none⟩) n cap, .int .i64 (C).regs, .int .i64 (C).attr, .int .i64 (C).unif, .int .i64 (C).vary] 24)))
  have hkn : (k : Int) < (n : Int) := by omega
  clear hrg
  go_enter Tryz.func62, Tryz.ntmps62
  go_wp2_with (first
    | (refine wpList_load_mid rfl 59 (.tmp 9) rfl b (off + k * 16) rfl (insA I).toList _ (unhide HRNG) Tryz.underlying59 rfl sizeI16 ?_; rw [Array.toArray_toList])
    | refine wpList_storeLast rfl 59 (.tmp 5) (.tmp 10) rfl _ (w.heap.size + 1) (by simp) rfl (insA I) rfl 16 sizeI16 rfl rfl (insA_one I) ?_)
  clear HRNG
  generalize (w.alloc (.cells #[.int .i64 (C).stage, .slice (some ⟨b, off, none⟩) n cap, .int .i64 (C).regs, .int .i64 (C).attr, .int .i64 (C).unif, .int .i64 (C).vary] 24)).alloc (.cells (insA I) 59) = w2 at HI HC HX ⊢
  have HFL := hide (fun wx (hx : Ext w2 wx) => unhide HFL wx ((unhide HX).trans hx))
  cases sm
  case false =>
    have EQ : Hid (y = false) := by rw [Hid, unhide E]; rfl
    clear E HRG HFL
    refine wp_region_noPanic ?_
    refine wp_region_held_drew (S := fun wx => Ext w2 wx) (by kernel_rfl) ((Ext.refl _).drew) (fun HS => ?_)
    refine wpAnyH_take (i := 0) (oi := { dst := some 11, op := Op.load _ (Operand.tmp 5), type := _, pos := _, after := _, guard := none }) (v := .agg (insA I)) rfl (by kernel_rfl) (by kernel_rfl) (by kernel_rfl) (fun _ _ _ h => h) (yieldsIf_load_mid (by rfl) 59 (.tmp 5) rfl (w.heap.size + 1) 0 rfl (insA I).toList _ (fun wx hx => ((unhide HI).ext hx).rng) Tryz.underlying59 rfl sizeI16) HS ?_
    simp only [Act.put, List.setIfInBounds_toArray, List.set_cons_zero, List.set_cons_succ]
    refine wpAnyH_take (i := 1) (oi := { dst := some 12, op := Op.load _ (Operand.tmp 5), type := _, pos := _, after := _, guard := none }) (v := .agg (insA I)) rfl (by kernel_rfl) (by kernel_rfl) (by kernel_rfl) (fun _ _ _ h => h) (yieldsIf_load_mid (by rfl) 59 (.tmp 5) rfl (w.heap.size + 1) 0 rfl (insA I).toList _ (fun wx hx => ((unhide HI).ext hx).rng) Tryz.underlying59 rfl sizeI16) HS ?_
    simp only [Act.put, List.setIfInBounds_toArray, List.set_cons_zero, List.set_cons_succ]
    refine wpAnyH_ready (rs := [2]) (by kernel_rfl) (by simp) (AllReadyH.cons (o := { dst := some 13, op := Op.call { callee := Callee.value (Operand.func _), args := #[Operand.tmp 12], argTypes := _ }, type := _, pos := _, after := _, guard := none }) rfl (fun KK hK => ?_) AllReadyH.nil)
    go_simp
    refine (just_any I _).mono ?_
    rintro e ws ⟨rfl, hxs⟩
    have HS2 := Ext.trans HS hxs
    clear hxs HS
    have HS := HS2
    clear HS2
    refine hK.out _ _ HS (fun _ => ?_)
    clear hK KK
    try simp only [Act.put, List.setIfInBounds_toArray, List.set_cons_zero, List.set_cons_succ]
    refine wpAnyH_take (i := 3) (oi := { dst := some 14, op := Op.binOp BinOp.eql _ (Operand.tmp 11) (Operand.tmp 13) _, type := _, pos := _, after := _, guard := none }) (v := .bool false) rfl (by kernel_rfl) (by kernel_rfl) (by kernel_rfl) (fun _ _ _ h => h) (Or.inl ⟨by rfl, fun wx hx => exec_eq _ _ (.tmp 11) (.tmp 13) _ _ _ _ _ rfl rfl rfl grdI (unhide HEQ wx)⟩) HS ?_
    simp only [Act.put, List.setIfInBounds_toArray, List.set_cons_zero, List.set_cons_succ]
    refine wpAnyH_take (i := 4) (oi := { dst := some 15, op := Op.move (Operand.tmp 14), type := _, pos := _, after := _, guard := none }) (v := .bool false) rfl (by kernel_rfl) (by kernel_rfl) (by kernel_rfl) (fun _ _ _ h => h) (Or.inl ⟨by rfl, fun _ _ => rfl⟩) HS ?_
    simp only [Act.put, List.setIfInBounds_toArray, List.set_cons_zero, List.set_cons_succ]
    refine wpAnyH_take (i := 5) (oi := { dst := some 16, op := Op.load _ (Operand.tmp 2), type := _, pos := _, after := _, guard := some (4, true) }) (v := undef) rfl (by kernel_rfl) (by kernel_rfl) (by kernel_rfl) (fun _ _ _ h => h) (Or.inr ⟨by rfl, rfl⟩) HS ?_
    simp only [Act.put, List.setIfInBounds_toArray, List.set_cons_zero, List.set_cons_succ]
    refine wpAnyH_take (i := 6) (oi := { dst := some 17, op := Op.load _ (Operand.tmp 5), type := _, pos := _, after := _, guard := some (4, true) }) (v := undef) rfl (by kernel_rfl) (by kernel_rfl) (by kernel_rfl) (fun _ _ _ h => h) (Or.inr ⟨by rfl, rfl⟩) HS ?_
    simp only [Act.put, List.setIfInBounds_toArray, List.set_cons_zero, List.set_cons_succ]
    refine wpAnyH_take (i := 7) (oi := { dst := some 18, op := Op.call { callee := Callee.value (Operand.func _), args := #[Operand.tmp 16, Operand.tmp 17], argTypes := _ }, type := _, pos := _, after := _, guard := some (4, true) }) (v := undef) rfl (by kernel_rfl) (by kernel_rfl) (by kernel_rfl) (fun _ _ _ h => h) (Or.inr ⟨by rfl, rfl⟩) HS ?_
    simp only [Act.put, List.setIfInBounds_toArray, List.set_cons_zero, List.set_cons_succ]
    refine wpAnyH_take (i := 8) (oi := { dst := some 19, op := Op.pick (Operand.tmp 15) (Operand.tmp 18) (Operand.const (Value.bool false)), type := _, pos := _, after := _, guard := none }) (v := .bool false) rfl (by kernel_rfl) (by kernel_rfl) (by kernel_rfl) (fun _ _ _ h => h) (Or.inl ⟨by rfl, fun _ _ => rfl⟩) HS ?_
    simp only [Act.put, List.setIfInBounds_toArray, List.set_cons_zero, List.set_cons_succ]
    refine wpAnyH_take (i := 9) (oi := { dst := some 20, op := Op.move (Operand.tmp 19), type := _, pos := _, after := _, guard := none }) (v := .bool false) rfl (by kernel_rfl) (by kernel_rfl) (by kernel_rfl) (fun _ _ _ h => h) (Or.inl ⟨by rfl, fun _ _ => rfl⟩) HS ?_
    simp only [Act.put, List.setIfInBounds_toArray, List.set_cons_zero, List.set_cons_succ]
    refine wpAnyH_take (i := 10) (oi := { dst := some 21, op := Op.load _ (Operand.tmp 2), type := _, pos := _, after := _, guard := some (9, true) }) (v := undef) rfl (by kernel_rfl) (by kernel_rfl) (by kernel_rfl) (fun _ _ _ h => h) (Or.inr ⟨by rfl, rfl⟩) HS ?_
    simp only [Act.put, List.setIfInBounds_toArray, List.set_cons_zero, List.set_cons_succ]
    refine wpAnyH_take (i := 11) (oi := { dst := some 22, op := Op.move (Operand.tmp 1), type := _, pos := _, after := _, guard := some (9, true) }) (v := undef) rfl (by kernel_rfl) (by kernel_rfl) (by kernel_rfl) (fun _ _ _ h => h) (Or.inr ⟨by rfl, rfl⟩) HS ?_
    simp only [Act.put, List.setIfInBounds_toArray, List.set_cons_zero, List.set_cons_succ]
    refine wpAnyH_take (i := 12) (oi := { dst := some 23, op := Op.call { callee := Callee.value (Operand.func _), args := #[Operand.tmp 21, Operand.tmp 22], argTypes := _ }, type := _, pos := _, after := _, guard := some (9, true) }) (v := undef) rfl (by kernel_rfl) (by kernel_rfl) (by kernel_rfl) (fun _ _ _ h => h) (Or.inr ⟨by rfl, rfl⟩) HS ?_
    simp only [Act.put, List.setIfInBounds_toArray, List.set_cons_zero, List.set_cons_succ]
    refine wpAnyH_take (i := 13) (oi := { dst := some 24, op := Op.pick (Operand.tmp 20) (Operand.tmp 23) (Operand.const (Value.bool false)), type := _, pos := _, after := _, guard := none }) (v := .bool false) rfl (by kernel_rfl) (by kernel_rfl) (by kernel_rfl) (fun _ _ _ h => h) (Or.inl ⟨by rfl, fun _ _ => rfl⟩) HS ?_
    simp only [Act.put, List.setIfInBounds_toArray, List.set_cons_zero, List.set_cons_succ]
    refine wpAnyH_take (i := 14) (oi := { dst := some 4, op := Op.assign (Operand.tmp 24), type := _, pos := _, after := _, guard := none }) (v := .bool false) rfl (by kernel_rfl) (by kernel_rfl) (by kernel_rfl) (fun _ _ _ h => h) (Or.inl ⟨by rfl, fun _ _ => rfl⟩) HS ?_
    simp only [Act.put, List.setIfInBounds_toArray, List.set_cons_zero, List.set_cons_succ]
    refine wpAnyH_done (by kernel_rfl) ?_ _
    refine NoPanic.normal ?_
    have HX9 := hide ((unhide HX).trans HS)
    go_wp2
    go_ret
    rw [unhide EQ]
    exact ⟨rfl, unhide HX9⟩
  case true =>
  cases rb
  case false =>
    have EQ : Hid (y = false) := by rw [Hid, unhide E]; rfl
    clear E HFL
    refine wp_region_noPanic ?_
    refine wp_region_held_drew (S := fun wx => Ext w2 wx) (by kernel_rfl) ((Ext.refl _).drew) (fun HS => ?_)
    refine wpAnyH_take (i := 0) (oi := { dst := some 11, op := Op.load _ (Operand.tmp 5), type := _, pos := _, after := _, guard := none }) (v := .agg (insA I)) rfl (by kernel_rfl) (by kernel_rfl) (by kernel_rfl) (fun _ _ _ h => h) (yieldsIf_load_mid (by rfl) 59 (.tmp 5) rfl (w.heap.size + 1) 0 rfl (insA I).toList _ (fun wx hx => ((unhide HI).ext hx).rng) Tryz.underlying59 rfl sizeI16) HS ?_
    simp only [Act.put, List.setIfInBounds_toArray, List.set_cons_zero, List.set_cons_succ]
    refine wpAnyH_take (i := 1) (oi := { dst := some 12, op := Op.load _ (Operand.tmp 5), type := _, pos := _, after := _, guard := none }) (v := .agg (insA I)) rfl (by kernel_rfl) (by kernel_rfl) (by kernel_rfl) (fun _ _ _ h => h) (yieldsIf_load_mid (by rfl) 59 (.tmp 5) rfl (w.heap.size + 1) 0 rfl (insA I).toList _ (fun wx hx => ((unhide HI).ext hx).rng) Tryz.underlying59 rfl sizeI16) HS ?_
    simp only [Act.put, List.setIfInBounds_toArray, List.set_cons_zero, List.set_cons_succ]
    refine wpAnyH_ready (rs := [2]) (by kernel_rfl) (by simp) (AllReadyH.cons (o := { dst := some 13, op := Op.call { callee := Callee.value (Operand.func _), args := #[Operand.tmp 12], argTypes := _ }, type := _, pos := _, after := _, guard := none }) rfl (fun KK hK => ?_) AllReadyH.nil)
    go_simp
    refine (just_any I _).mono ?_
    rintro e ws ⟨rfl, hxs⟩
    have HS2 := Ext.trans HS hxs
    clear hxs HS
    have HS := HS2
    clear HS2
    refine hK.out _ _ HS (fun _ => ?_)
    clear hK KK
    try simp only [Act.put, List.setIfInBounds_toArray, List.set_cons_zero, List.set_cons_succ]
    refine wpAnyH_take (i := 3) (oi := { dst := some 14, op := Op.binOp BinOp.eql _ (Operand.tmp 11) (Operand.tmp 13) _, type := _, pos := _, after := _, guard := none }) (v := .bool true) rfl (by kernel_rfl) (by kernel_rfl) (by kernel_rfl) (fun _ _ _ h => h) (Or.inl ⟨by rfl, fun wx hx => exec_eq _ _ (.tmp 11) (.tmp 13) _ _ _ _ _ rfl rfl rfl grdI (unhide HEQ wx)⟩) HS ?_
    simp only [Act.put, List.setIfInBounds_toArray, List.set_cons_zero, List.set_cons_succ]
    refine wpAnyH_take (i := 4) (oi := { dst := some 15, op := Op.move (Operand.tmp 14), type := _, pos := _, after := _, guard := none }) (v := .bool true) rfl (by kernel_rfl) (by kernel_rfl) (by kernel_rfl) (fun _ _ _ h => h) (Or.inl ⟨by rfl, fun _ _ => rfl⟩) HS ?_
    simp only [Act.put, List.setIfInBounds_toArray, List.set_cons_zero, List.set_cons_succ]
    refine wpAnyH_take (i := 5) (oi := { dst := some 16, op := Op.load _ (Operand.tmp 2), type := _, pos := _, after := _, guard := some (4, true) }) (v := .agg #[.int .i64 (C).stage, .slice (some ⟨b, off, none⟩) n cap, .int .i64 (C).regs, .int .i64 (C).attr, .int .i64 (C).unif, .int .i64 (C).vary]) rfl (by kernel_rfl) (by kernel_rfl) (by kernel_rfl) (fun _ _ _ h => h) (yieldsIf_load_mid (by rfl) 24 (.tmp 2) rfl w.heap.size 0 rfl [.int .i64 C.stage, .slice (some ⟨b, off, none⟩) n cap, .int .i64 C.regs, .int .i64 C.attr, .int .i64 C.unif, .int .i64 C.vary] _ (fun wx hx => ((unhide HC).ext hx).rng) Tryz.underlying24 rfl size6) HS ?_
    simp only [Act.put, List.setIfInBounds_toArray, List.set_cons_zero, List.set_cons_succ]
    refine wpAnyH_take (i := 6) (oi := { dst := some 17, op := Op.load _ (Operand.tmp 5), type := _, pos := _, after := _, guard := some (4, true) }) (v := .agg (insA I)) rfl (by kernel_rfl) (by kernel_rfl) (by kernel_rfl) (fun _ _ _ h => h) (yieldsIf_load_mid (by rfl) 59 (.tmp 5) rfl (w.heap.size + 1) 0 rfl (insA I).toList _ (fun wx hx => ((unhide HI).ext hx).rng) Tryz.underlying59 rfl sizeI16) HS ?_
    simp only [Act.put, List.setIfInBounds_toArray, List.set_cons_zero, List.set_cons_succ]
    refine wpAnyH_ready (rs := [7]) (by kernel_rfl) (by simp) (AllReadyH.cons (o := { dst := some 18, op := Op.call { callee := Callee.value (Operand.func _), args := #[Operand.tmp 16, Operand.tmp 17], argTypes := _ }, type := _, pos := _, after := _, guard := some (4, true) }) rfl (fun KK hK => ?_) AllReadyH.nil)
    go_simp
    refine (unhide HRG _).mono ?_
    rintro e ws ⟨rfl, hxs⟩
    have HS2 := Ext.trans HS hxs
    clear hxs HS
    have HS := HS2
    clear HS2
    refine hK.out _ _ HS (fun _ => ?_)
    clear hK KK
    try simp only [Act.put, List.setIfInBounds_toArray, List.set_cons_zero, List.set_cons_succ]
    refine wpAnyH_take (i := 8) (oi := { dst := some 19, op := Op.pick (Operand.tmp 15) (Operand.tmp 18) (Operand.const (Value.bool false)), type := _, pos := _, after := _, guard := none }) (v := .bool false) rfl (by kernel_rfl) (by kernel_rfl) (by kernel_rfl) (fun _ _ _ h => h) (Or.inl ⟨by rfl, fun _ _ => rfl⟩) HS ?_
    simp only [Act.put, List.setIfInBounds_toArray, List.set_cons_zero, List.set_cons_succ]
    refine wpAnyH_take (i := 9) (oi := { dst := some 20, op := Op.move (Operand.tmp 19), type := _, pos := _, after := _, guard := none }) (v := .bool false) rfl (by kernel_rfl) (by kernel_rfl) (by kernel_rfl) (fun _ _ _ h => h) (Or.inl ⟨by rfl, fun _ _ => rfl⟩) HS ?_
    simp only [Act.put, List.setIfInBounds_toArray, List.set_cons_zero, List.set_cons_succ]
    refine wpAnyH_take (i := 10) (oi := { dst := some 21, op := Op.load _ (Operand.tmp 2), type := _, pos := _, after := _, guard := some (9, true) }) (v := undef) rfl (by kernel_rfl) (by kernel_rfl) (by kernel_rfl) (fun _ _ _ h => h) (Or.inr ⟨by rfl, rfl⟩) HS ?_
    simp only [Act.put, List.setIfInBounds_toArray, List.set_cons_zero, List.set_cons_succ]
    refine wpAnyH_take (i := 11) (oi := { dst := some 22, op := Op.move (Operand.tmp 1), type := _, pos := _, after := _, guard := some (9, true) }) (v := undef) rfl (by kernel_rfl) (by kernel_rfl) (by kernel_rfl) (fun _ _ _ h => h) (Or.inr ⟨by rfl, rfl⟩) HS ?_
    simp only [Act.put, List.setIfInBounds_toArray, List.set_cons_zero, List.set_cons_succ]
    refine wpAnyH_take (i := 12) (oi := { dst := some 23, op := Op.call { callee := Callee.value (Operand.func _), args := #[Operand.tmp 21, Operand.tmp 22], argTypes := _ }, type := _, pos := _, after := _, guard := some (9, true) }) (v := undef) rfl (by kernel_rfl) (by kernel_rfl) (by kernel_rfl) (fun _ _ _ h => h) (Or.inr ⟨by rfl, rfl⟩) HS ?_
    simp only [Act.put, List.setIfInBounds_toArray, List.set_cons_zero, List.set_cons_succ]
    refine wpAnyH_take (i := 13) (oi := { dst := some 24, op := Op.pick (Operand.tmp 20) (Operand.tmp 23) (Operand.const (Value.bool false)), type := _, pos := _, after := _, guard := none }) (v := .bool false) rfl (by kernel_rfl) (by kernel_rfl) (by kernel_rfl) (fun _ _ _ h => h) (Or.inl ⟨by rfl, fun _ _ => rfl⟩) HS ?_
    simp only [Act.put, List.setIfInBounds_toArray, List.set_cons_zero, List.set_cons_succ]
    refine wpAnyH_take (i := 14) (oi := { dst := some 4, op := Op.assign (Operand.tmp 24), type := _, pos := _, after := _, guard := none }) (v := .bool false) rfl (by kernel_rfl) (by kernel_rfl) (by kernel_rfl) (fun _ _ _ h => h) (Or.inl ⟨by rfl, fun _ _ => rfl⟩) HS ?_
    simp only [Act.put, List.setIfInBounds_toArray, List.set_cons_zero, List.set_cons_succ]
    refine wpAnyH_done (by kernel_rfl) ?_ _
    refine NoPanic.normal ?_
    have HX9 := hide ((unhide HX).trans HS)
    go_wp2
    go_ret
    rw [unhide EQ]
    exact ⟨rfl, unhide HX9⟩
  case true =>
    have EQ : Hid (y = fb) := by rw [Hid, unhide E]; rfl
    clear E
    refine wp_region_noPanic ?_
    refine wp_region_held_drew (S := fun wx => Ext w2 wx) (by kernel_rfl) ((Ext.refl _).drew) (fun HS => ?_)
    refine wpAnyH_take (i := 0) (oi := { dst := some 11, op := Op.load _ (Operand.tmp 5), type := _, pos := _, after := _, guard := none }) (v := .agg (insA I)) rfl (by kernel_rfl) (by kernel_rfl) (by kernel_rfl) (fun _ _ _ h => h) (yieldsIf_load_mid (by rfl) 59 (.tmp 5) rfl (w.heap.size + 1) 0 rfl (insA I).toList _ (fun wx hx => ((unhide HI).ext hx).rng) Tryz.underlying59 rfl sizeI16) HS ?_
    simp only [Act.put, List.setIfInBounds_toArray, List.set_cons_zero, List.set_cons_succ]
    refine wpAnyH_take (i := 1) (oi := { dst := some 12, op := Op.load _ (Operand.tmp 5), type := _, pos := _, after := _, guard := none }) (v := .agg (insA I)) rfl (by kernel_rfl) (by kernel_rfl) (by kernel_rfl) (fun _ _ _ h => h) (yieldsIf_load_mid (by rfl) 59 (.tmp 5) rfl (w.heap.size + 1) 0 rfl (insA I).toList _ (fun wx hx => ((unhide HI).ext hx).rng) Tryz.underlying59 rfl sizeI16) HS ?_
    simp only [Act.put, List.setIfInBounds_toArray, List.set_cons_zero, List.set_cons_succ]
    refine wpAnyH_ready (rs := [2]) (by kernel_rfl) (by simp) (AllReadyH.cons (o := { dst := some 13, op := Op.call { callee := Callee.value (Operand.func _), args := #[Operand.tmp 12], argTypes := _ }, type := _, pos := _, after := _, guard := none }) rfl (fun KK hK => ?_) AllReadyH.nil)
    go_simp
    refine (just_any I _).mono ?_
    rintro e ws ⟨rfl, hxs⟩
    have HS2 := Ext.trans HS hxs
    clear hxs HS
    have HS := HS2
    clear HS2
    refine hK.out _ _ HS (fun _ => ?_)
    clear hK KK
    try simp only [Act.put, List.setIfInBounds_toArray, List.set_cons_zero, List.set_cons_succ]
    refine wpAnyH_take (i := 3) (oi := { dst := some 14, op := Op.binOp BinOp.eql _ (Operand.tmp 11) (Operand.tmp 13) _, type := _, pos := _, after := _, guard := none }) (v := .bool true) rfl (by kernel_rfl) (by kernel_rfl) (by kernel_rfl) (fun _ _ _ h => h) (Or.inl ⟨by rfl, fun wx hx => exec_eq _ _ (.tmp 11) (.tmp 13) _ _ _ _ _ rfl rfl rfl grdI (unhide HEQ wx)⟩) HS ?_
    simp only [Act.put, List.setIfInBounds_toArray, List.set_cons_zero, List.set_cons_succ]
    refine wpAnyH_take (i := 4) (oi := { dst := some 15, op := Op.move (Operand.tmp 14), type := _, pos := _, after := _, guard := none }) (v := .bool true) rfl (by kernel_rfl) (by kernel_rfl) (by kernel_rfl) (fun _ _ _ h => h) (Or.inl ⟨by rfl, fun _ _ => rfl⟩) HS ?_
    simp only [Act.put, List.setIfInBounds_toArray, List.set_cons_zero, List.set_cons_succ]
    refine wpAnyH_take (i := 5) (oi := { dst := some 16, op := Op.load _ (Operand.tmp 2), type := _, pos := _, after := _, guard := some (4, true) }) (v := .agg #[.int .i64 (C).stage, .slice (some ⟨b, off, none⟩) n cap, .int .i64 (C).regs, .int .i64 (C).attr, .int .i64 (C).unif, .int .i64 (C).vary]) rfl (by kernel_rfl) (by kernel_rfl) (by kernel_rfl) (fun _ _ _ h => h) (yieldsIf_load_mid (by rfl) 24 (.tmp 2) rfl w.heap.size 0 rfl [.int .i64 C.stage, .slice (some ⟨b, off, none⟩) n cap, .int .i64 C.regs, .int .i64 C.attr, .int .i64 C.unif, .int .i64 C.vary] _ (fun wx hx => ((unhide HC).ext hx).rng) Tryz.underlying24 rfl size6) HS ?_
    simp only [Act.put, List.setIfInBounds_toArray, List.set_cons_zero, List.set_cons_succ]
    refine wpAnyH_take (i := 6) (oi := { dst := some 17, op := Op.load _ (Operand.tmp 5), type := _, pos := _, after := _, guard := some (4, true) }) (v := .agg (insA I)) rfl (by kernel_rfl) (by kernel_rfl) (by kernel_rfl) (fun _ _ _ h => h) (yieldsIf_load_mid (by rfl) 59 (.tmp 5) rfl (w.heap.size + 1) 0 rfl (insA I).toList _ (fun wx hx => ((unhide HI).ext hx).rng) Tryz.underlying59 rfl sizeI16) HS ?_
    simp only [Act.put, List.setIfInBounds_toArray, List.set_cons_zero, List.set_cons_succ]
    refine wpAnyH_ready (rs := [7]) (by kernel_rfl) (by simp) (AllReadyH.cons (o := { dst := some 18, op := Op.call { callee := Callee.value (Operand.func _), args := #[Operand.tmp 16, Operand.tmp 17], argTypes := _ }, type := _, pos := _, after := _, guard := some (4, true) }) rfl (fun KK hK => ?_) AllReadyH.nil)
    go_simp
    refine (unhide HRG _).mono ?_
    rintro e ws ⟨rfl, hxs⟩
    have HS2 := Ext.trans HS hxs
    clear hxs HS
    have HS := HS2
    clear HS2
    refine hK.out _ _ HS (fun _ => ?_)
    clear hK KK
    try simp only [Act.put, List.setIfInBounds_toArray, List.set_cons_zero, List.set_cons_succ]
    refine wpAnyH_take (i := 8) (oi := { dst := some 19, op := Op.pick (Operand.tmp 15) (Operand.tmp 18) (Operand.const (Value.bool false)), type := _, pos := _, after := _, guard := none }) (v := .bool true) rfl (by kernel_rfl) (by kernel_rfl) (by kernel_rfl) (fun _ _ _ h => h) (Or.inl ⟨by rfl, fun _ _ => rfl⟩) HS ?_
    simp only [Act.put, List.setIfInBounds_toArray, List.set_cons_zero, List.set_cons_succ]
    refine wpAnyH_take (i := 9) (oi := { dst := some 20, op := Op.move (Operand.tmp 19), type := _, pos := _, after := _, guard := none }) (v := .bool true) rfl (by kernel_rfl) (by kernel_rfl) (by kernel_rfl) (fun _ _ _ h => h) (Or.inl ⟨by rfl, fun _ _ => rfl⟩) HS ?_
    simp only [Act.put, List.setIfInBounds_toArray, List.set_cons_zero, List.set_cons_succ]
    refine wpAnyH_take (i := 10) (oi := { dst := some 21, op := Op.load _ (Operand.tmp 2), type := _, pos := _, after := _, guard := some (9, true) }) (v := .agg #[.int .i64 (C).stage, .slice (some ⟨b, off, none⟩) n cap, .int .i64 (C).regs, .int .i64 (C).attr, .int .i64 (C).unif, .int .i64 (C).vary]) rfl (by kernel_rfl) (by kernel_rfl) (by kernel_rfl) (fun _ _ _ h => h) (yieldsIf_load_mid (by rfl) 24 (.tmp 2) rfl w.heap.size 0 rfl [.int .i64 C.stage, .slice (some ⟨b, off, none⟩) n cap, .int .i64 C.regs, .int .i64 C.attr, .int .i64 C.unif, .int .i64 C.vary] _ (fun wx hx => ((unhide HC).ext hx).rng) Tryz.underlying24 rfl size6) HS ?_
    simp only [Act.put, List.setIfInBounds_toArray, List.set_cons_zero, List.set_cons_succ]
    refine wpAnyH_take (i := 11) (oi := { dst := some 22, op := Op.move (Operand.tmp 1), type := _, pos := _, after := _, guard := some (9, true) }) (v := .int .i64 (k : Int)) rfl (by kernel_rfl) (by kernel_rfl) (by kernel_rfl) (fun _ _ _ h => h) (Or.inl ⟨by rfl, fun _ _ => rfl⟩) HS ?_
    simp only [Act.put, List.setIfInBounds_toArray, List.set_cons_zero, List.set_cons_succ]
    refine wpAnyH_ready (rs := [12]) (by kernel_rfl) (by simp) (AllReadyH.cons (o := { dst := some 23, op := Op.call { callee := Callee.value (Operand.func _), args := #[Operand.tmp 21, Operand.tmp 22], argTypes := _ }, type := _, pos := _, after := _, guard := some (9, true) }) rfl (fun KK hK => ?_) AllReadyH.nil)
    go_simp
    refine (unhide HFL _ HS).mono ?_
    rintro e ws ⟨rfl, hxs⟩
    have HS2 := Ext.trans HS hxs
    clear hxs HS
    have HS := HS2
    clear HS2
    refine hK.out _ _ HS (fun _ => ?_)
    clear hK KK
    try simp only [Act.put, List.setIfInBounds_toArray, List.set_cons_zero, List.set_cons_succ]
    refine wpAnyH_take (i := 13) (oi := { dst := some 24, op := Op.pick (Operand.tmp 20) (Operand.tmp 23) (Operand.const (Value.bool false)), type := _, pos := _, after := _, guard := none }) (v := .bool fb) rfl (by kernel_rfl) (by kernel_rfl) (by kernel_rfl) (fun _ _ _ h => h) (Or.inl ⟨by rfl, fun _ _ => rfl⟩) HS ?_
    simp only [Act.put, List.setIfInBounds_toArray, List.set_cons_zero, List.set_cons_succ]
    refine wpAnyH_take (i := 14) (oi := { dst := some 4, op := Op.assign (Operand.tmp 24), type := _, pos := _, after := _, guard := none }) (v := .bool fb) rfl (by kernel_rfl) (by kernel_rfl) (by kernel_rfl) (fun _ _ _ h => h) (Or.inl ⟨by rfl, fun _ _ => rfl⟩) HS ?_
    simp only [Act.put, List.setIfInBounds_toArray, List.set_cons_zero, List.set_cons_succ]
    refine wpAnyH_done (by kernel_rfl) ?_ _
    refine NoPanic.normal ?_
    have HX9 := hide ((unhide HX).trans HS)
    go_wp2
    go_ret
    rw [unhide EQ]
    exact ⟨rfl, unhide HX9⟩

set_option maxRecDepth 10000 in
set_option maxHeartbeats 4000000 in
theorem may_any (C : Cod) (v : Value) (w : World) (h : IR w v C.ins) : Calls Tryz.prog 35 #[.agg #[.int .i64 (C).stage, v, .int .i64 (C).regs, .int .i64 (C).attr, .int .i64 (C).unif, .int .i64 (C).vary]] w fun e w' => e = .returned (.bool (mayP C)) ∧ Ext w w' := by
  have E : Hid (mayP C = (headB C && (decide (C.ins.length ≤ 4096) && mayTo C C.ins.length))) := rfl
  generalize mayP C = y at *
  have HV := hide h
  obtain ⟨ao, cap, rfl, hn0, hlc, hcm, hat⟩ := h
  have HH := hide (fun wx => head_any C (.slice ao C.ins.length cap) wx)
  have HI := hide (fun k (hk : k < C.ins.length) wx (hx : Ext w wx) => ins_any C _ C.ins k wx ((unhide HV).ext hx) hk)
  have HB := hide (Blk.new w #[.int .i64 (C).stage, .slice ao C.ins.length cap, .int .i64 (C).regs, .int .i64 (C).attr, .int .i64 (C).unif, .int .i64 (C).vary] 24)
  have HX := hide ((Ext.refl w).alloc (.cells #[.int .i64 (C).stage, .slice ao C.ins.length cap, .int .i64 (C).regs, .int .i64 (C).attr, .int .i64 (C).unif, .int .i64 (C).vary] 24))
  unfold maxLen at hcm
  clear hat hn0
  go_enter Tryz.func35, Tryz.ntmps35
  go_wp2_with (first
    | refine wpList_load_row rfl 24 (.tmp 1) rfl w.heap.size rfl 24 #[.int .i64 (C).stage, .slice ao C.ins.length cap, .int .i64 (C).regs, .int .i64 (C).attr, .int .i64 (C).unif, .int .i64 (C).vary] (0, 0) _ (unhide HB) Tryz.underlying24 rfl size6 ?_
    | (go_at_call 9999))
  refine (unhide HH _).mono ?_
  rintro e w2 ⟨rfl, hx2⟩
  have HB2 := hide ((unhide HB).ext hx2)
  have HX2 := hide ((unhide HX).trans hx2)
  obtain ⟨_, c1, _, _, _, _⟩ := cellC (unhide HB2)
  clear hx2 HB HX HH
  cases hh : headB C
  case false =>
    have EQ : Hid (y = false) := by rw [Hid, unhide E, hh]; rfl
    go_wp2
    go_ret
    rw [unhide EQ]
    exact ⟨rfl, unhide HX2⟩
  case true =>
  by_cases hn : C.ins.length ≤ 4096
  case neg =>
    have EQ : Hid (y = false) := by rw [Hid, unhide E, hh, decide_eq_false hn]; rfl
    have hn' : (4096 : Int) < (C.ins.length : Int) := by omega
    go_wp2
    go_ret
    rw [unhide EQ]
    exact ⟨rfl, unhide HX2⟩
  case pos =>
  have EQ : Hid (y = mayTo C C.ins.length) := by rw [Hid, unhide E, hh, decide_eq_true hn]; rfl
  have hn' : ¬ (4096 : Int) < (C.ins.length : Int) := by omega
  clear E
  go_wp2
  go_loopw [16] (fun iv wr => ∃ k : Nat, k ≤ C.ins.length ∧ iv = .int .i64 (k : Int) ∧ Ext w2 wr ∧ mayTo C k = true) (fun iv _ => C.ins.length - (intOf iv).toNat)
  case atStart => exact ⟨0, Nat.zero_le _, rfl, Ext.refl _, rfl⟩
  case round =>
    obtain ⟨k, hk, rfl, hx, hm⟩ := hrel
    have X := hide hx
    have M := hide hm
    clear hx hm
    by_cases hlt : k < C.ins.length
    · have HB3 := hide ((unhide HB2).ext (unhide X))
      have HX3 := hide ((unhide HX2).trans (unhide X))
      have HS := hide (mayTo_succ C k)
      have HF := hide (fun h => mayTo_false (C := C) (k := k) (n := C.ins.length) h hlt)
      rw [show C.ins.getD k zI = C.ins[k] by simp [hlt]] at HS HF
      have HC := hide (unhide HI k hlt wr (unhide HX3))
      generalize insB C C.ins.length k C.ins[k] = q at *
      clear c1
      go_wp2_with (first
        | refine wpList_load_row rfl 24 (.tmp 1) rfl w.heap.size rfl 24 #[.int .i64 (C).stage, .slice ao C.ins.length cap, .int .i64 (C).regs, .int .i64 (C).attr, .int .i64 (C).unif, .int .i64 (C).vary] (0, 0) _ (unhide HB3) Tryz.underlying24 rfl size6 ?_
        | (go_at_call 9999))
      refine (unhide HC).mono ?_
      rintro e w5 ⟨rfl, hx5⟩
      have X5 := hide ((unhide X).trans hx5)
      clear hx5
      cases q
      case false =>
        go_wp2
        go_ret
        rw [unhide EQ, unhide HF (by first | rfl | trivial)]
        exact ⟨rfl, (unhide HX2).trans (unhide X5)⟩
      case true =>
        go_wp2
        go_roundw
        case rel => exact ⟨k + 1, by omega, by go_num, unhide X5, by rw [unhide HS, unhide M]; rfl⟩
        case measure => simp [intOf]; omega
    · obtain rfl : k = C.ins.length := by omega
      go_wp2
      go_ret
      rw [unhide EQ, unhide M]
      exact ⟨rfl, (unhide HX2).trans (unhide X)⟩

def chkI (b : Bool) : Int := if b then 0 else 260
set_option maxRecDepth 10000 in
set_option maxHeartbeats 2000000 in
theorem codeChk_any (C : Cod) (v : Value) (w : World) (h : IR w v C.ins) : Calls Tryz.prog 40 #[.agg #[.int .i64 (C).stage, v, .int .i64 (C).regs, .int .i64 (C).attr, .int .i64 (C).unif, .int .i64 (C).vary]] w fun e w' => e = .returned (.int .i64 (chkI (mayP C))) ∧ Ext w w' := by
  have HV := hide h
  obtain ⟨ao, cap, rfl, hn0, hlc, hcm, hat⟩ := h
  have HM := hide (fun wx (hx : Ext w wx) => may_any C _ wx ((unhide HV).ext hx))
  have HB := hide (Blk.new w #[.int .i64 (C).stage, .slice ao C.ins.length cap, .int .i64 (C).regs, .int .i64 (C).attr, .int .i64 (C).unif, .int .i64 (C).vary] 24)
  have HX := hide ((Ext.refl w).alloc (.cells #[.int .i64 (C).stage, .slice ao C.ins.length cap, .int .i64 (C).regs, .int .i64 (C).attr, .int .i64 (C).unif, .int .i64 (C).vary] 24))
  generalize mayP C = y at *
  clear hat hn0
  go_enter Tryz.func40, Tryz.ntmps40
  go_wp2_with (first
    | refine wpList_load_row rfl 24 (.tmp 1) rfl w.heap.size rfl 24 #[.int .i64 (C).stage, .slice ao C.ins.length cap, .int .i64 (C).regs, .int .i64 (C).attr, .int .i64 (C).unif, .int .i64 (C).vary] (0, 0) _ (unhide HB) Tryz.underlying24 rfl size6 ?_
    | (go_at_call 9999))
  refine (unhide HM _ (unhide HX)).mono ?_
  rintro e w2 ⟨rfl, hx2⟩
  have X2 := hide ((unhide HX).trans hx2)
  clear hx2 HX HB
  cases y
  all_goals
    go_wp2
    go_ret
    exact ⟨rfl, unhide X2⟩
end Go.Proofs.YtglfhmlcmffoaaaGreat

/-
  The machine of registers: a new machine; why a code can't be run.
-/
namespace Go.Proofs.YtglfhmlcmffoaaaGreat
open Go.RowKit
set_option linter.unusedVariables false
set_option linter.unusedSimpArgs false

theorem nul_made (n : Nat) : (madeCells (Value.agg #[.int .i32 0, .int .i32 0, .int .i32 0, .int .i32 0]).cells (n * 4)).toList = (List.replicate n nul).flatMap vEnc := by
  have hl : ((List.replicate n nul).flatMap vEnc).length = n * 4 := by rw [flat_len vEnc_len, List.length_replicate]
  apply List.ext_getElem
  · rw [hl]; simp [madeCells]
  · intro i h1 h2
    have hi : i < n * 4 := by rw [hl] at h2; exact h2
    have e2 : ((List.replicate n nul).flatMap vEnc)[i]? = some (.int .i32 0) := by
      have := flat_get vEnc_len (List.replicate n nul) (i / 4) (by rw [List.length_replicate]; omega) (i % 4) (by omega)
      rw [show i / 4 * 4 + i % 4 = i by omega] at this
      rw [this, List.getElem_replicate]
      rcases (by omega : i % 4 = 0 ∨ i % 4 = 1 ∨ i % 4 = 2 ∨ i % 4 = 3) with h | h | h | h <;> rw [h] <;> rfl
    rw [(List.getElem?_eq_some_iff.1 e2).2]
    have e1 : (madeCells #[.int .i32 0, .int .i32 0, .int .i32 0, .int .i32 0] (n * 4))[i]? = some (Value.int .i32 0) := by
      unfold madeCells
      rw [Array.getElem?_map, Array.getElem?_range]
      rw [if_pos hi]
      simp only [Option.map_some]
      rcases (by omega : i % 4 = 0 ∨ i % 4 = 1 ∨ i % 4 = 2 ∨ i % 4 = 3) with h | h | h | h <;> simp [h]
    have e3 : (madeCells #[.int .i32 0, .int .i32 0, .int .i32 0, .int .i32 0] (n * 4)).toList[i]? = some (Value.int .i32 0) := by simpa using e1
    exact (List.getElem?_eq_some_iff.1 e3).2
theorem info_vec : ∃ i, Tryz.prog.info? 28 = some i ∧ i.zero = some (.agg #[.int .i32 0, .int .i32 0, .int .i32 0, .int .i32 0]) ∧ i.size = 4 ∧ i.bytes = 16 := info_partsG (by kernel_rfl)
theorem run_make_vec (w : World) (base n : Nat) (hn : n ≤ 1000000) (hb : base ≤ w.heap.size) :
    ∃ w', (Instr.makeSlice 25 (.int .i64 (n : Int)) (.int .i64 (n : Int))).run Tryz.prog w = .ok (.slice (some ⟨w.heap.size, 0, none⟩) n n) w' ∧ OV w' base (.slice (some ⟨w.heap.size, 0, none⟩) n n) (List.replicate n nul) ∧ w.grownBy w' none := by
  obtain ⟨i0, hi, hz0, hz1, hz2⟩ := info_vec
  obtain ⟨w', hrun, r1, r2⟩ := run_make_full (P := Tryz.prog) w base 25 28 i0 _ 4 Tryz.underlying25 hi hz0 hz1 .i64 .i64 n (by rw [hz2]; omega) (by unfold maxLen; omega) hb
  refine ⟨w', hrun, ?_, r2⟩
  unfold OV GO
  rw [List.length_replicate, ← nul_made]
  exact r1

theorem own_eq {g n c b : Nat} (h : (Value.slice (some ⟨g, 0, none⟩) n c).ownBlock = some b) : b = g := by cases h; rfl
theorem sizeEnv : (Tryz.prog.info? 31).map (·.size) = some 13 := by kernel_rfl
def NewM (C : Cod) (E : EnvC) (w : World) (e : Ending) (w' : World) : Prop := ∃ mb vr vy, e = .returned (.pointer (some ⟨mb, 0, none⟩)) ∧ Blk w' mb (mcA E vr ⟨nul, 0, vy, nul, false⟩) 71 ∧ OV w' w.heap.size vr (List.replicate C.regs.toNat nul) ∧
  OV w' w.heap.size vy (if C.stage = 1 then List.replicate C.vary.toNat nul else []) ∧ Ext w w' ∧ w.heap.size ≤ mb ∧ (∀ g, vr.ownBlock = some g → g ≠ mb) ∧ (∀ g, vy.ownBlock = some g → g ≠ mb ∧ vr.ownBlock ≠ some g)
set_option maxRecDepth 10000 in
set_option maxHeartbeats 4000000 in
theorem newMachine_any (C : Cod) (v : Value) (E : EnvC) (w : World) (hr : 0 ≤ C.regs ∧ C.regs ≤ 1024) (hv : 0 ≤ C.vary ∧ C.vary ≤ 4) :
    Calls Tryz.prog 26 #[.agg #[.int .i64 (C).stage, v, .int .i64 (C).regs, .int .i64 (C).attr, .int .i64 (C).unif, .int .i64 (C).vary], .agg (envA E)] w fun e w' => NewM C E w e w' := by
  have hX : Ext w ((w.alloc (.cells #[.int .i64 (C).stage, v, .int .i64 (C).regs, .int .i64 (C).attr, .int .i64 (C).unif, .int .i64 (C).vary] 24)).alloc (.cells (envA E) 31)) := ((Ext.refl w).alloc _).alloc _
  have hC : Blk ((w.alloc (.cells #[.int .i64 (C).stage, v, .int .i64 (C).regs, .int .i64 (C).attr, .int .i64 (C).unif, .int .i64 (C).vary] 24)).alloc (.cells (envA E) 31)) w.heap.size #[.int .i64 (C).stage, v, .int .i64 (C).regs, .int .i64 (C).attr, .int .i64 (C).unif, .int .i64 (C).vary] 24 := (Blk.new w _ _).alloc _
  have hE : Blk ((w.alloc (.cells #[.int .i64 (C).stage, v, .int .i64 (C).regs, .int .i64 (C).attr, .int .i64 (C).unif, .int .i64 (C).vary] 24)).alloc (.cells (envA E) 31)) (w.heap.size + 1) (envA E) 31 := Blk.at (by simp)
  have D := hide (And.intro hC (And.intro hE hX))
  clear hX hC hE
  obtain ⟨n, hn⟩ : ∃ n : Nat, C.regs = (n : Int) := ⟨C.regs.toNat, by omega⟩
  obtain ⟨m, hm⟩ : ∃ m : Nat, C.vary = (m : Int) := ⟨C.vary.toNat, by omega⟩
  have HN := hide (And.intro hn (And.intro hm (And.intro (show n ≤ 1000000 by omega) (show m ≤ 1000000 by omega))))
  clear hr hv hn hm
  go_enter Tryz.func26, Tryz.ntmps26
  go_upto_region 1 with fail
  generalize hw2 : ((w.alloc (.cells #[.int .i64 (C).stage, v, .int .i64 (C).regs, .int .i64 (C).attr, .int .i64 (C).unif, .int .i64 (C).vary] 24)).alloc (.cells (envA E) 31)) = w2 at D ⊢
  have hsz : w2.heap.size = w.heap.size + 2 := by rw [← hw2]; simp
  clear hw2
  have c2 := (unhide D).1.cell (i := 2) (v := .int .i64 C.regs) rfl
  rw [(unhide HN).1] at c2
  have c0 := (unhide D).1.cell (i := 0) (v := .int .i64 C.stage) rfl
  have c5 := (unhide D).1.cell (i := 5) (v := .int .i64 C.vary) rfl
  rw [(unhide HN).2.1] at c5
  have e0 := (unhide D).2.1.cell (i := 0) (v := E.va) rfl
  have e1 := (unhide D).2.1.cell (i := 1) (v := E.vu) rfl
  have e2 := (unhide D).2.1.cell (i := 2) (v := E.vv) rfl
  have e3 := (unhide D).2.1.cell (i := 3) (v := (.int .i32 (E.co 0))) rfl
  have e4 := (unhide D).2.1.cell (i := 4) (v := (.int .i32 (E.co 1))) rfl
  have e5 := (unhide D).2.1.cell (i := 5) (v := (.int .i32 (E.co 2))) rfl
  have e6 := (unhide D).2.1.cell (i := 6) (v := (.int .i32 (E.co 3))) rfl
  have e7 := (unhide D).2.1.cell (i := 7) (v := (.bool E.fr)) rfl
  have e8 := (unhide D).2.1.cell (i := 8) (v := (.int .i32 (E.pt 0))) rfl
  have e9 := (unhide D).2.1.cell (i := 9) (v := (.int .i32 (E.pt 1))) rfl
  have e10 := (unhide D).2.1.cell (i := 10) (v := (.int .i32 (E.pt 2))) rfl
  have e11 := (unhide D).2.1.cell (i := 11) (v := (.int .i32 (E.pt 3))) rfl
  have e12 := (unhide D).2.1.cell (i := 12) (v := E.vi) rfl
  obtain ⟨w9, hrun, hown, hg⟩ := run_make_vec w2.drew w.heap.size n (unhide HN).2.2.1 (by have : w2.drew.heap.size = w2.heap.size := rfl; omega)
  have hrun2 : (Instr.makeSlice 25 (.int .i64 (n : Int)) (.int .i64 (n : Int))).run Tryz.prog w2.drew = .ok (.slice (some ⟨w2.heap.size, 0, none⟩) n n) w9 := hrun
  have hx9 : Ext w2 w9 := (Ext.refl w2).drew.trans ⟨hg.os, hg.tape, hg.output, hg.size, fun i hi => hg.block i hi (by simp)⟩
  have hs9 : w2.heap.size < w9.heap.size := (GO.lt hown w2.heap.size rfl).2
  have X9 := hide hx9
  have O9 := hide (show OV w9 w.heap.size (.slice (some ⟨w.heap.size + 2, 0, none⟩) n n) (List.replicate n nul) from hsz ▸ hown)
  clear hrun hown hg
  have HCL := hide (fun wx (hx : Ext w2 wx) => show wx.cell? ⟨w.heap.size + 1, 0, none⟩ = some E.va ∧ wx.cell? ⟨w.heap.size + 1, 1, none⟩ = some E.vu ∧ wx.cell? ⟨w.heap.size + 1, 2, none⟩ = some E.vv ∧ wx.cell? ⟨w.heap.size + 1, 3, none⟩ = some (.int .i32 (E.co 0)) ∧ wx.cell? ⟨w.heap.size + 1, 4, none⟩ = some (.int .i32 (E.co 1)) ∧ wx.cell? ⟨w.heap.size + 1, 5, none⟩ = some (.int .i32 (E.co 2)) ∧ wx.cell? ⟨w.heap.size + 1, 6, none⟩ = some (.int .i32 (E.co 3)) ∧ wx.cell? ⟨w.heap.size + 1, 7, none⟩ = some (.bool E.fr) ∧ wx.cell? ⟨w.heap.size + 1, 8, none⟩ = some (.int .i32 (E.pt 0)) ∧ wx.cell? ⟨w.heap.size + 1, 9, none⟩ = some (.int .i32 (E.pt 1)) ∧ wx.cell? ⟨w.heap.size + 1, 10, none⟩ = some (.int .i32 (E.pt 2)) ∧ wx.cell? ⟨w.heap.size + 1, 11, none⟩ = some (.int .i32 (E.pt 3)) ∧ wx.cell? ⟨w.heap.size + 1, 12, none⟩ = some E.vi ∧ wx.cell? ⟨w.heap.size, 2, none⟩ = some (.int .i64 (n : Int)) from
    ⟨(hx.cell (World.block_lt_of_cell? _ _ e0)).trans e0, (hx.cell (World.block_lt_of_cell? _ _ e1)).trans e1, (hx.cell (World.block_lt_of_cell? _ _ e2)).trans e2, (hx.cell (World.block_lt_of_cell? _ _ e3)).trans e3, (hx.cell (World.block_lt_of_cell? _ _ e4)).trans e4, (hx.cell (World.block_lt_of_cell? _ _ e5)).trans e5, (hx.cell (World.block_lt_of_cell? _ _ e6)).trans e6, (hx.cell (World.block_lt_of_cell? _ _ e7)).trans e7, (hx.cell (World.block_lt_of_cell? _ _ e8)).trans e8, (hx.cell (World.block_lt_of_cell? _ _ e9)).trans e9, (hx.cell (World.block_lt_of_cell? _ _ e10)).trans e10, (hx.cell (World.block_lt_of_cell? _ _ e11)).trans e11, (hx.cell (World.block_lt_of_cell? _ _ e12)).trans e12, (hx.cell (World.block_lt_of_cell? _ _ c2)).trans c2⟩)
  go_cut [5] (fun p wc => ∃ mb, p = .pointer (some ⟨mb, 0, none⟩) ∧ Hid (Blk wc mb (mcA E (.slice (some ⟨w.heap.size + 2, 0, none⟩) n n) ⟨nul, 0, .slice none 0 0, nul, false⟩) 71 ∧ Ext w9 wc ∧ w9.heap.size ≤ mb))
  case first =>
    go_region_held3 (fun wx => wx.cell? ⟨w.heap.size + 1, 0, none⟩ = some E.va ∧ wx.cell? ⟨w.heap.size + 1, 1, none⟩ = some E.vu ∧ wx.cell? ⟨w.heap.size + 1, 2, none⟩ = some E.vv ∧ wx.cell? ⟨w.heap.size + 1, 3, none⟩ = some (.int .i32 (E.co 0)) ∧ wx.cell? ⟨w.heap.size + 1, 4, none⟩ = some (.int .i32 (E.co 1)) ∧ wx.cell? ⟨w.heap.size + 1, 5, none⟩ = some (.int .i32 (E.co 2)) ∧ wx.cell? ⟨w.heap.size + 1, 6, none⟩ = some (.int .i32 (E.co 3)) ∧ wx.cell? ⟨w.heap.size + 1, 7, none⟩ = some (.bool E.fr) ∧ wx.cell? ⟨w.heap.size + 1, 8, none⟩ = some (.int .i32 (E.pt 0)) ∧ wx.cell? ⟨w.heap.size + 1, 9, none⟩ = some (.int .i32 (E.pt 1)) ∧ wx.cell? ⟨w.heap.size + 1, 10, none⟩ = some (.int .i32 (E.pt 2)) ∧ wx.cell? ⟨w.heap.size + 1, 11, none⟩ = some (.int .i32 (E.pt 3)) ∧ wx.cell? ⟨w.heap.size + 1, 12, none⟩ = some E.vi ∧ wx.cell? ⟨w.heap.size, 2, none⟩ = some (.int .i64 (n : Int)))
      (first | with_reducible exact unhide HCL _ ((Ext.refl _).drew) | with_reducible exact unhide HCL _ (unhide X9) | with_reducible exact unhide HCL _ ((unhide X9).alloc _))
      (fail)
    all_goals go_wp2
    all_goals go_meet
    all_goals exact ⟨w9.heap.size, rfl, Blk.new w9 _ _, (Ext.refl _).alloc _, Nat.le_refl _⟩
  case rest =>
  obtain ⟨mb, rfl, hcut⟩ := hcut
  rename_i wc
  have hxc := (unhide hcut).2.1
  have hs9c := hxc.size
  have hmb := (unhide hcut).2.2
  have XC := hide ((unhide X9).trans hxc)
  have OC := hide (OV.ext9 (unhide O9) hxc)
  have BC := hide (unhide hcut).1
  have c0 := (((unhide D).1).ext (unhide XC)).cell (i := 0) (v := .int .i64 C.stage) rfl
  have c5 := (((unhide D).1).ext (unhide XC)).cell (i := 5) (v := .int .i64 C.vary) rfl
  rw [(unhide HN).2.1] at c5
  have hszc : w.heap.size ≤ wc.heap.size := by omega
  clear c2 hrun2 hx9 X9 O9 HCL hcut hxc e0 e1 e2 e3 e4 e5 e6 e7 e8 e9 e10 e11 e12
  by_cases h1 : C.stage = 1
  case neg =>
    have d : (C.stage == 1) = false := by simp [h1]
    have hS := hide h1
    clear h1
    go_wp2
    go_ret
    refine ⟨mb, _, _, rfl, unhide BC, ?_, ?_, (unhide D).2.2.trans (unhide XC), by omega, ?_, ?_⟩
    · rw [(unhide HN).1]
      exact unhide OC
    · rw [if_neg (unhide hS)]
      exact GO.nil _ _
    · intro g hg
      have hg2 := own_eq hg
      omega
    · intro g hg
      cases hg
  case pos =>
    have hS := hide h1
    rw [h1] at c0
    clear h1
    obtain ⟨w10, hrun, hown, hg⟩ := run_make_vec wc w.heap.size m (unhide HN).2.2.2 hszc
    have hx10 : Ext wc w10 := ⟨hg.os, hg.tape, hg.output, hg.size, fun i hi => hg.block i hi (by simp)⟩
    have hs10 : wc.heap.size < w10.heap.size := (GO.lt hown wc.heap.size rfl).2
    have hmc : mb < wc.heap.size := (unhide BC).lt
    have B10 := hide ((unhide BC).ext hx10)
    have X10 := hide hx10
    have O10 := hide hown
    have m19 := mc_at (unhide B10) 19 (v := .slice none 0 0) rfl
    have z19 := (unhide B10).free 19
    clear hx10 hown hg
    go_wp2
    go_ret
    have hg := grownBy_set w10 mb 19 (.slice (some ⟨wc.heap.size, 0, none⟩) m m)
    refine ⟨mb, .slice (some ⟨w.heap.size + 2, 0, none⟩) n n, .slice (some ⟨wc.heap.size, 0, none⟩) m m, rfl, ?_, ?_, ?_, ?_, by omega, ?_, ?_⟩
    · have := (unhide B10).set 19 (.slice (some ⟨wc.heap.size, 0, none⟩) m m)
      simpa [mcA] using this
    · rw [(unhide HN).1]
      exact (OV.ext9 (unhide OC) (unhide X10)).other hg (fun b hb => by have := own_eq hb; omega)
    · rw [if_pos (unhide hS), (unhide HN).2.1]
      exact (unhide O10).other hg (fun b hb => by have := own_eq hb; omega)
    · exact ext_set (((unhide D).2.2.trans (unhide XC)).trans (unhide X10)) (by omega)
    · intro g hg
      have hg2 := own_eq hg
      omega
    · intro g hg
      have hg2 := own_eq hg
      refine ⟨by omega, fun h => ?_⟩
      have h2 := own_eq h
      omega
end Go.Proofs.YtglfhmlcmffoaaaGreat

/-
  The machine of registers: why a code can't be run (refusal), Fits.
-/
namespace Go.Proofs.YtglfhmlcmffoaaaGreat
open Go.RowKit
set_option linter.unusedVariables false
set_option linter.unusedSimpArgs false

/-- Do surroundings fit, by how many there are? -/
def fitB (C : Cod) (na nu nv : Nat) : Bool := decide ((na : Int) = C.attr) && (decide ((nu : Int) = C.unif) && decide ((nv : Int) = (if C.stage = 1 then 0 else C.vary)))
/-- Why a code can't be run. -/
def refI (C : Cod) (na nu nv : Nat) : Int := if mayP C = false then 260 else if fitB C na nu nv then 0 else 2

set_option maxRecDepth 10000 in
set_option maxHeartbeats 4000000 in
theorem refusalM_any (C : Cod) (v : Value) (E : EnvC) (S : Sur) (w : World) (h : IR w v C.ins) (hs : SurAt w E S) :
    Calls Tryz.prog 25 #[.agg #[.int .i64 (C).stage, v, .int .i64 (C).regs, .int .i64 (C).attr, .int .i64 (C).unif, .int .i64 (C).vary], .agg (envA E)] w fun e w' => e = .returned (.int .i64 (refI C S.att.length S.uni.length S.vry.length)) ∧ Ext w w' := by
  obtain ⟨aa, ca, ea⟩ := hs.1.shape
  obtain ⟨au, cu, eu⟩ := hs.2.1.shape
  obtain ⟨av, cv, ev⟩ := hs.2.2.1.shape
  have ER := hide (show refI C S.att.length S.uni.length S.vry.length = if mayP C = false then 260 else if fitB C S.att.length S.uni.length S.vry.length then 0 else 2 from rfl)
  have EF := hide (show fitB C S.att.length S.uni.length S.vry.length = (decide ((S.att.length : Int) = C.attr) && (decide ((S.uni.length : Int) = C.unif) && decide ((S.vry.length : Int) = (if C.stage = 1 then 0 else C.vary)))) from rfl)
  generalize S.att.length = na at *
  generalize S.uni.length = nu at *
  generalize S.vry.length = nv at *
  have hX : Ext w ((w.alloc (.cells #[.int .i64 (C).stage, v, .int .i64 (C).regs, .int .i64 (C).attr, .int .i64 (C).unif, .int .i64 (C).vary] 24)).alloc (.cells (envA E) 31)) := ((Ext.refl w).alloc _).alloc _
  have hC : Blk ((w.alloc (.cells #[.int .i64 (C).stage, v, .int .i64 (C).regs, .int .i64 (C).attr, .int .i64 (C).unif, .int .i64 (C).vary] 24)).alloc (.cells (envA E) 31)) w.heap.size #[.int .i64 (C).stage, v, .int .i64 (C).regs, .int .i64 (C).attr, .int .i64 (C).unif, .int .i64 (C).vary] 24 := (Blk.new w _ _).alloc _
  have hE : Blk ((w.alloc (.cells #[.int .i64 (C).stage, v, .int .i64 (C).regs, .int .i64 (C).attr, .int .i64 (C).unif, .int .i64 (C).vary] 24)).alloc (.cells (envA E) 31)) (w.heap.size + 1) (envA E) 31 := Blk.at (by simp)
  have D := hide (And.intro hC (And.intro hE hX))
  have HC := hide (codeChk_any C v _ (h.ext hX))
  have HE := hide (And.intro ea (And.intro eu ev))
  clear hX hC hE h hs ea eu ev
  go_enter Tryz.func25, Tryz.ntmps25
  go_upto_region 1 with fail
  generalize hw2 : ((w.alloc (.cells #[.int .i64 (C).stage, v, .int .i64 (C).regs, .int .i64 (C).attr, .int .i64 (C).unif, .int .i64 (C).vary] 24)).alloc (.cells (envA E) 31)) = w2 at D HC ⊢
  clear hw2
  have HB := hide (unhide D).1
  go_cut [5] (fun p wc => p = .int .i64 (chkI (mayP C)) ∧ Hid (Ext w2 wc))
  case first =>
    go_wp2_with (first
      | refine wpList_load_row rfl 24 (.tmp 2) rfl w.heap.size rfl 24 #[.int .i64 (C).stage, v, .int .i64 (C).regs, .int .i64 (C).attr, .int .i64 (C).unif, .int .i64 (C).vary] (0, 0) _ (unhide HB) Tryz.underlying24 rfl size6 ?_
      | (go_at_call 40; refine (unhide HC).mono ?_; rintro e w3 ⟨rfl, hx3⟩; have X3 := hide hx3; clear hx3))
    go_meet
    exact ⟨rfl, unhide X3⟩
  case rest =>
  obtain ⟨rfl, hcut⟩ := hcut
  rename_i wc
  have DC := hide (And.intro ((unhide D).1.ext (unhide hcut)) (And.intro ((unhide D).2.1.ext (unhide hcut)) ((unhide D).2.2.trans (unhide hcut))))
  clear D HC HB hcut
  cases hy : mayP C
  case false =>
    have E2 : Hid (refI C na nu nv = 260) := by rw [Hid, unhide ER, if_pos hy]
    have hch : chkI false = 260 := rfl
    rw [hch]
    clear hy ER EF
    go_wp2
    go_ret
    exact ⟨by rw [unhide E2] <;> rfl, (unhide DC).2.2⟩
  case true =>
  have hch : chkI true = 0 := rfl
  rw [hch]
  have E3 : Hid (refI C na nu nv = if fitB C na nu nv then 0 else 2) := by rw [Hid, unhide ER, if_neg (by rw [hy]; decide)]
  clear hch hy ER
  have c0 := (unhide DC).1.cell (i := 0) (v := .int .i64 C.stage) rfl
  have c3 := (unhide DC).1.cell (i := 3) (v := .int .i64 C.attr) rfl
  have c4 := (unhide DC).1.cell (i := 4) (v := .int .i64 C.unif) rfl
  have c5 := (unhide DC).1.cell (i := 5) (v := .int .i64 C.vary) rfl
  have e0 := (unhide DC).2.1.cell (i := 0) (v := E.va) rfl
  have e1 := (unhide DC).2.1.cell (i := 1) (v := E.vu) rfl
  have e2 := (unhide DC).2.1.cell (i := 2) (v := E.vv) rfl
  rw [(unhide HE).1] at e0
  rw [(unhide HE).2.1] at e1
  rw [(unhide HE).2.2] at e2
  clear HE
  obtain ⟨q, hq⟩ : ∃ q : Int, (if C.stage = 1 then 0 else C.vary) = q := ⟨_, rfl⟩
  rw [hq] at EF
  have HX := hide (unhide DC).2.2
  clear DC
  generalize C.attr = xa at *
  generalize C.unif = xu at *
  by_cases h1 : C.stage = 1
  case pos =>
    rw [if_pos h1] at hq
    rw [h1] at c0
    subst hq
    clear h1
    by_cases ha : (na : Int) = xa
    case neg =>
      have E4 : Hid (refI C na nu nv = 2) := by rw [Hid, unhide E3, unhide EF, decide_eq_false ha]; rfl
      have d : ((na : Int) != xa) = true := by simp [ha]
      clear ha EF E3
      go_wp2
      go_ret
      exact ⟨by rw [unhide E4] <;> rfl, unhide HX⟩
    case pos =>
    have da : ((na : Int) != xa) = false := by simp [ha]
    by_cases hu : (nu : Int) = xu
    case neg =>
      have E4 : Hid (refI C na nu nv = 2) := by rw [Hid, unhide E3, unhide EF, decide_eq_false hu, Bool.false_and, Bool.and_false]; rfl
      have d : ((nu : Int) != xu) = true := by simp [hu]
      clear ha hu EF E3
      go_wp2
      go_ret
      exact ⟨by rw [unhide E4] <;> rfl, unhide HX⟩
    case pos =>
    have du : ((nu : Int) != xu) = false := by simp [hu]
    by_cases hv : (nv : Int) = 0
    case neg =>
      have E4 : Hid (refI C na nu nv = 2) := by rw [Hid, unhide E3, unhide EF, decide_eq_false hv, Bool.and_false, Bool.and_false]; rfl
      have d : ((nv : Int) != 0) = true := by first | (simp [hv]; done) | (simp; omega)
      clear ha hu hv EF E3
      go_wp2
      go_ret
      exact ⟨by rw [unhide E4] <;> rfl, unhide HX⟩
    case pos =>
    have dv : ((nv : Int) != 0) = false := by first | (simp [hv]; done) | (simp; omega)
    have E4 : Hid (refI C na nu nv = 0) := by rw [Hid, unhide E3, unhide EF, decide_eq_true ha, decide_eq_true hu, decide_eq_true hv]; rfl
    clear ha hu hv EF E3
    go_wp2
    go_ret
    exact ⟨by rw [unhide E4] <;> rfl, unhide HX⟩
  case neg =>
    rw [if_neg h1] at hq
    have d1 : (C.stage == 1) = false := by simp [h1]
    obtain ⟨xv, hxv⟩ : ∃ xv, C.vary = xv := ⟨_, rfl⟩
    rw [hxv] at hq c5
    subst hq
    clear h1 hxv
    by_cases ha : (na : Int) = xa
    case neg =>
      have E4 : Hid (refI C na nu nv = 2) := by rw [Hid, unhide E3, unhide EF, decide_eq_false ha]; rfl
      have d : ((na : Int) != xa) = true := by simp [ha]
      clear ha EF E3
      go_wp2
      go_ret
      exact ⟨by rw [unhide E4] <;> rfl, unhide HX⟩
    case pos =>
    have da : ((na : Int) != xa) = false := by simp [ha]
    by_cases hu : (nu : Int) = xu
    case neg =>
      have E4 : Hid (refI C na nu nv = 2) := by rw [Hid, unhide E3, unhide EF, decide_eq_false hu, Bool.false_and, Bool.and_false]; rfl
      have d : ((nu : Int) != xu) = true := by simp [hu]
      clear ha hu EF E3
      go_wp2
      go_ret
      exact ⟨by rw [unhide E4] <;> rfl, unhide HX⟩
    case pos =>
    have du : ((nu : Int) != xu) = false := by simp [hu]
    by_cases hv : (nv : Int) = xv
    case neg =>
      have E4 : Hid (refI C na nu nv = 2) := by rw [Hid, unhide E3, unhide EF, decide_eq_false hv, Bool.and_false, Bool.and_false]; rfl
      have d : ((nv : Int) != xv) = true := by first | (simp [hv]; done) | (simp; omega)
      clear ha hu hv EF E3
      go_wp2
      go_ret
      exact ⟨by rw [unhide E4] <;> rfl, unhide HX⟩
    case pos =>
    have dv : ((nv : Int) != xv) = false := by first | (simp [hv]; done) | (simp; omega)
    have E4 : Hid (refI C na nu nv = 0) := by rw [Hid, unhide E3, unhide EF, decide_eq_true ha, decide_eq_true hu, decide_eq_true hv]; rfl
    clear ha hu hv EF E3
    go_wp2
    go_ret
    exact ⟨by rw [unhide E4] <;> rfl, unhide HX⟩

set_option maxRecDepth 10000 in
set_option maxHeartbeats 4000000 in
theorem fits_any (C : Cod) (v : Value) (E : EnvC) (S : Sur) (w : World) (h : IR w v C.ins) (hs : SurAt w E S) :
    Calls Tryz.prog 14 #[.agg #[.int .i64 (C).stage, v, .int .i64 (C).regs, .int .i64 (C).attr, .int .i64 (C).unif, .int .i64 (C).vary], .agg (envA E)] w fun e w' => e = .returned (.bool (refI C S.att.length S.uni.length S.vry.length == 0)) ∧ Ext w w' := by
  have hX : Ext w ((w.alloc (.cells #[.int .i64 (C).stage, v, .int .i64 (C).regs, .int .i64 (C).attr, .int .i64 (C).unif, .int .i64 (C).vary] 24)).alloc (.cells (envA E) 31)) := ((Ext.refl w).alloc _).alloc _
  have hC : Blk ((w.alloc (.cells #[.int .i64 (C).stage, v, .int .i64 (C).regs, .int .i64 (C).attr, .int .i64 (C).unif, .int .i64 (C).vary] 24)).alloc (.cells (envA E) 31)) w.heap.size #[.int .i64 (C).stage, v, .int .i64 (C).regs, .int .i64 (C).attr, .int .i64 (C).unif, .int .i64 (C).vary] 24 := (Blk.new w _ _).alloc _
  have hE : Blk ((w.alloc (.cells #[.int .i64 (C).stage, v, .int .i64 (C).regs, .int .i64 (C).attr, .int .i64 (C).unif, .int .i64 (C).vary] 24)).alloc (.cells (envA E) 31)) (w.heap.size + 1) (envA E) 31 := Blk.at (by simp)
  have HB := hide hC
  have HE := hide hE
  have HX := hide hX
  have HR := hide (refusalM_any C v E S _ (h.ext hX) (hs.ext hX))
  clear hX hC hE h hs
  generalize refI C S.att.length S.uni.length S.vry.length = r at *
  go_enter Tryz.func14, Tryz.ntmps14
  go_wp2_with (first
    | refine wpList_load_row rfl 24 (.tmp 2) rfl w.heap.size rfl 24 #[.int .i64 (C).stage, v, .int .i64 (C).regs, .int .i64 (C).attr, .int .i64 (C).unif, .int .i64 (C).vary] (0, 0) _ (unhide HB) Tryz.underlying24 rfl size6 ?_
    | refine wpList_load_row rfl 31 (.tmp 3) rfl (w.heap.size + 1) rfl 31 (envA E) (0, 0) _ (unhide HE) Tryz.underlying31 rfl sizeEnv ?_
    | (go_at_call 25; refine (unhide HR).mono ?_; rintro e w3 ⟨rfl, hx3⟩; have X3 := hide ((unhide HX).trans hx3); clear hx3))
  go_ret
  exact ⟨rfl, unhide X3⟩
end Go.Proofs.YtglfhmlcmffoaaaGreat

/-
  What a call leaves alone. Nothing here speaks of the program.
-/
namespace Go.Proofs.YtglfhmlcmffoaaaGreat
open Go.RowKit
set_option linter.unusedVariables false
set_option linter.unusedSimpArgs false

/-! ### What a call leaves alone -/
/-- All blocks but T's are as they were. -/
structure Out (T : Nat → Prop) (w w' : World) : Prop where
  os : w'.os = w.os
  tape : w'.tape = w.tape
  output : w'.output = w.output
  size : w.heap.size ≤ w'.heap.size
  block : ∀ k, k < w.heap.size → ¬ T k → w'.heap[k]? = w.heap[k]?
/-- T' is T and perhaps blocks that were not there. -/
def Wid (T T' : Nat → Prop) (w : World) : Prop := ∀ b, (b < w.heap.size → T b → T' b) ∧ (T' b → T b ∨ w.heap.size ≤ b)
section
variable {T T' T'' : Nat → Prop} {a b c w w' w'' : World}
theorem Out.refl (T : Nat → Prop) (w : World) : Out T w w := ⟨rfl, rfl, rfl, Nat.le_refl _, fun _ _ _ => rfl⟩
theorem Out.trans (h : Out T a b) (k : Out T' b c) (ht : ∀ k, T' k → T k ∨ a.heap.size ≤ k) : Out T a c :=
  ⟨k.os.trans h.os, k.tape.trans h.tape, k.output.trans h.output, Nat.le_trans h.size k.size, fun i hi hn => (k.block i (Nat.lt_of_lt_of_le hi h.size) (fun hT => by rcases ht i hT with h1 | h1; exact hn h1; omega)).trans (h.block i hi hn)⟩
theorem Out.wide (h : Out T w w') (ht : ∀ k, T k → T' k) : Out T' w w' := ⟨h.os, h.tape, h.output, h.size, fun i hi hn => h.block i hi (fun e => hn (ht i e))⟩
theorem Out.of_ext (h : Ext w w') : Out T w w' := ⟨h.os, h.tape, h.output, h.size, fun k hk _ => h.block k hk⟩
theorem Out.of_grown {r : Option Nat} (h : w.grownBy w' r) (hr : ∀ k, r = some k → T k) : Out T w w' :=
  ⟨h.os, h.tape, h.output, h.size, fun k hk hn => h.block k hk (fun e => hn (hr k e.symm))⟩
theorem Out.ext (h : Out T w w') (ht : ∀ k, T k → w.heap.size ≤ k) : Ext w w' := ⟨h.os, h.tape, h.output, h.size, fun k hk => h.block k hk (fun e => by have := ht k e; omega)⟩
theorem Out.ext0 (h : Out T w w') {v : World} (hx : Ext v w) (ht : ∀ k, T k → v.heap.size ≤ k) : Ext v w' :=
  ⟨h.os.trans hx.os, h.tape.trans hx.tape, h.output.trans hx.output, Nat.le_trans hx.size h.size, fun k hk => (h.block k (Nat.lt_of_lt_of_le hk hx.size) (fun e => by have := ht k e; omega)).trans (hx.block k hk)⟩
theorem Blk.out {n : Nat} {cs : Array Value} {t : TypeId} (h : Blk w n cs t) (ho : Out T w w') (hn : ¬ T n) : Blk w' n cs t := (ho.block n h.lt hn).trans h
theorem Wid.refl (T : Nat → Prop) (w : World) : Wid T T w := fun b => ⟨fun _ h => h, .inl⟩
theorem Wid.low (h : Wid T T' w') (hs : w.heap.size ≤ w'.heap.size) : Wid T T' w := fun b => ⟨fun hb e => (h b).1 (Nat.lt_of_lt_of_le hb hs) e, fun e => (h b).2 e |>.imp id (Nat.le_trans hs)⟩
theorem Wid.trans (h : Wid T T' w) (k : Wid T' T'' w') (hs : w.heap.size ≤ w'.heap.size) : Wid T T'' w := fun b => ⟨fun hb e => (k b).1 (Nat.lt_of_lt_of_le hb hs) ((h b).1 hb e), fun e => by
  rcases (k b).2 e with h1 | h1
  · exact (h b).2 h1
  · exact .inr (by omega)⟩
end

end Go.Proofs.YtglfhmlcmffoaaaGreat

/-
  The machine of registers in memory, as a whole; what turns it and what does not.
-/
namespace Go.Proofs.YtglfhmlcmffoaaaGreat
open Go.RowKit
set_option linter.unusedVariables false
set_option linter.unusedSimpArgs false

/-- A machine in memory, and what it has come to. -/
def MAt (w0 w : World) (mb : Nat) (E : EnvC) (vr vy : Value) (s : St) : Prop :=
  Blk w mb (mcA E vr ⟨s.po, s.sz, vy, s.cl, s.dc⟩) 71 ∧ OV w w0.heap.size vr s.R ∧ OV w w0.heap.size vy s.V ∧ Ext w0 w ∧ w0.heap.size ≤ mb ∧ (∀ g, vr.ownBlock = some g → g ≠ mb) ∧ (∀ g, vy.ownBlock = some g → g ≠ mb ∧ vr.ownBlock ≠ some g)
/-- The blocks of a machine. -/
def MB (mb : Nat) (vr vy : Value) (b : Nat) : Prop := b = mb ∨ vr.ownBlock = some b ∨ vy.ownBlock = some b
/-- What is not a machine's, of the call's own. -/
def NB (w0 : World) (mb : Nat) (vr vy : Value) (b : Nat) : Prop := w0.heap.size ≤ b ∧ ¬ MB mb vr vy b
section
variable {w0 w w' : World} {mb : Nat} {E : EnvC} {vr vy : Value} {s : St}
theorem OV.out {T : Nat → Prop} {v : Value} {base : Nat} {L : List (Nat → Int)} (h : OV w base v L) (ho : Out T w w') (hn : ∀ b, v.ownBlock = some b → ¬ T b) : OV w' base v L := by
  refine ⟨h.1, ?_⟩
  rcases h.2 with hl | ⟨g, cap, cur, e, hb, hg, r⟩
  · exact .inl hl
  · exact .inr ⟨g, cap, cur, e, hb, (ho.block g (Array.getElem?_eq_some_iff.1 hg).1 (hn g (by rw [e]; rfl))).trans hg, r⟩
theorem MAt.out (h : MAt w0 w mb E vr vy s) (ho : Out (NB w0 mb vr vy) w w') : MAt w0 w' mb E vr vy s := by
  obtain ⟨h1, h2, h3, h4, h5, h6, h7⟩ := h
  exact ⟨h1.out ho (fun h => h.2 (.inl rfl)), h2.out ho (fun b hb h => h.2 (.inr (.inl hb))), h3.out ho (fun b hb h => h.2 (.inr (.inr hb))), ho.ext0 h4 (fun k hk => hk.1), h5, h6, h7⟩
theorem MAt.ext (h : MAt w0 w mb E vr vy s) (hx : Ext w w') : MAt w0 w' mb E vr vy s := h.out (Out.of_ext hx)
/-- A vector stored into the registers. -/
theorem MAt.setR {g n cap : Nat} (h : MAt w0 w mb E (.slice (some ⟨g, 0, none⟩) n cap) vy s) (k : Nat) (hk : k < s.R.length) (x : Nat → Int) :
    MAt w0 ((((w.setCell ⟨g, k * 4, none⟩ (.int .i32 (x 0))).setCell ⟨g, k * 4 + 1, none⟩ (.int .i32 (x 1))).setCell ⟨g, k * 4 + 2, none⟩ (.int .i32 (x 2))).setCell ⟨g, k * 4 + 3, none⟩ (.int .i32 (x 3))) mb E (.slice (some ⟨g, 0, none⟩) n cap) vy { s with R := s.R.set k x } := by
  obtain ⟨h1, h2, h3, h4, h5, h6, h7⟩ := h
  have hg := grown4 w g (k * 4) (k * 4 + 1) (k * 4 + 2) (k * 4 + 3) (.int .i32 (x 0)) (.int .i32 (x 1)) (.int .i32 (x 2)) (.int .i32 (x 3))
  have hgm := h6 g rfl
  have hgb := (GO.lt h2 g rfl).1
  exact ⟨h1.grown hg (fun e => hgm e.symm), h2.store k hk x, h3.other hg (fun b hb e => (h7 b hb).2 (by rw [e]; rfl)), h4.grown hg h4.size (fun b e => by cases e; exact hgb), h5, h6, h7⟩
theorem MAt.setPo (h : MAt w0 w mb E vr vy s) {x : Nat → Int} (hb : Blk w' mb (mcA E vr ⟨x, s.sz, vy, s.cl, s.dc⟩) 71) (hg : w.grownBy w' (some mb)) : MAt w0 w' mb E vr vy { s with po := x } := by
  obtain ⟨h1, h2, h3, h4, h5, h6, h7⟩ := h
  exact ⟨hb, h2.other hg h6, h3.other hg (fun b hb => (h7 b hb).1), h4.grown hg h4.size (fun b e => by cases e; exact h5), h5, h6, h7⟩
theorem MAt.setSz (h : MAt w0 w mb E vr vy s) {x : Int} (hb : Blk w' mb (mcA E vr ⟨s.po, x, vy, s.cl, s.dc⟩) 71) (hg : w.grownBy w' (some mb)) : MAt w0 w' mb E vr vy { s with sz := x } := by
  obtain ⟨h1, h2, h3, h4, h5, h6, h7⟩ := h
  exact ⟨hb, h2.other hg h6, h3.other hg (fun b hb => (h7 b hb).1), h4.grown hg h4.size (fun b e => by cases e; exact h5), h5, h6, h7⟩
theorem MAt.setCl (h : MAt w0 w mb E vr vy s) {x : Nat → Int} (hb : Blk w' mb (mcA E vr ⟨s.po, s.sz, vy, x, s.dc⟩) 71) (hg : w.grownBy w' (some mb)) : MAt w0 w' mb E vr vy { s with cl := x } := by
  obtain ⟨h1, h2, h3, h4, h5, h6, h7⟩ := h
  exact ⟨hb, h2.other hg h6, h3.other hg (fun b hb => (h7 b hb).1), h4.grown hg h4.size (fun b e => by cases e; exact h5), h5, h6, h7⟩
theorem MAt.setV (h : MAt w0 w mb E vr vy s) {g : Nat} {V : List (Nat → Int)} (e : vy.ownBlock = some g) (hv : OV w' w0.heap.size vy V) (hg : w.grownBy w' (some g)) : MAt w0 w' mb E vr vy { s with V := V } := by
  obtain ⟨h1, h2, h3, h4, h5, h6, h7⟩ := h
  have h8 := h7 g e
  exact ⟨h1.grown hg (fun e => h8.1 e.symm), h2.other hg (fun b hb e2 => h8.2 (by rw [← e2]; exact hb)), hv, h4.grown hg h4.size (fun b e3 => by cases e3; exact (GO.lt h3 g e).1), h5, h6, h7⟩

/-- What a function value that is told the places keeps: what has been told, in memory apart from the machine's. -/
structure Sees (P : Program) (w0 : World) (mb : Nat) (vr vy : Value) (g : FuncId) (lb : Array Value) (Tr : World → List Nat → Prop) : Prop where
  enters : ∀ args w, (callFunc g args).run P w = .ok (.enter g args) w
  keep : ∀ w w' tr b, Tr w tr → w.grownBy w' (some b) → MB mb vr vy b → Tr w' tr
  ext : ∀ w w' tr, Tr w tr → Ext w w' → Tr w' tr
  see : ∀ (k : Nat) w tr, Tr w tr → tr.length ≤ 5000 → k ≤ 5000 → Ext w0 w → Calls P g (#[.int .i64 (k : Int)] ++ lb) w fun e w' => e = .returned (.tuple #[]) ∧ Tr w' (tr ++ [k]) ∧ Out (NB w0 mb vr vy) w w'
end
/-- What run leaves behind. -/
def RunM (w0 : World) (mb : Nat) (E : EnvC) (vr vy : Value) (Tr : World → List Nat → Prop) (q : St × List Nat) (e : Ending) (w' : World) : Prop :=
  e = .returned (.tuple #[]) ∧ Tr w' q.2 ∧ ((q.1.dc = false ∧ MAt w0 w' mb E vr vy q.1) ∨ (q.1.dc = true ∧ MAt w0 w' mb E vr (.slice none 0 0) q.1))
end Go.Proofs.YtglfhmlcmffoaaaGreat
