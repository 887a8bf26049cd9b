/-
  The document's operators ahead of a type, and its questions.
-/
import Derived.Test.YtokmplebajgckaaKR
import Derived.Test.YtokmplebajgckaaKE
namespace Go.Proofs.Ytokmplebajgckaa
open Go.RowKit
set_option linter.unusedVariables false
set_option linter.unusedSimpArgs false

set_option maxHeartbeats 4000000 in
set_option maxRecDepth 100000 in
theorem refUnary_any (o : Byts8) (a : Ty) (w : World) :
    Calls Try.prog 18 #[.string ⟨o.toArray⟩, .agg #[.int .i64 (a).1, .int .i64 (a).2]] w fun e w' => e = .returned (.tuple #[.agg #[.int .i64 ((unaP o a).1).1, .int .i64 ((unaP o a).1).2], .int .i64 (unaP o a).2]) ∧ Ext w w' := by
  have H0 := hide (reg1 w a)
  have HM := hide refMay_any
  have HNU := hide refNumber_any
  have HVA := hide refValue_any
  have HTR := hide refTruth_any
  obtain ⟨U, hU⟩ : ∃ U, unaP o a = U := ⟨_, rfl⟩
  rw [hU]
  unfold unaP at hU
  go_enter Try.func18, Try.ntmps18
  have HMx := hide (unhide HM a)
  cases hm0 : mayP a with
  | false =>
    rw [hm0] at HMx
    rw [if_pos (by simp [hm0])] at hU
    subst hU
    go_wp2_with fail
    refine (unhide HMx _).mono ?_
    rintro e wm ⟨rfl, hxm⟩
    have HS := Reg.ext hxm (unhide H0)
    clear hxm HMx 
    obtain ⟨c0, k0⟩ := HS.at (w.heap.size) (a) (by simp)
    obtain ⟨x, y, r0, r1, z0, z1⟩ := HS.res
    have HF := hide (HS.fin (.int .i64 0) (.int .i64 0))
    clear HS
    go_wp2
    obtain ⟨s0, s1⟩ := (unhide HF).1.two
    exact bodyPost_ret (v := .tuple #[.agg #[.int .i64 (noT).1, .int .i64 (noT).2], .int .i64 2]) (by simp [results, Try.results18, go_sem, s0, s1, noT]) rfl ⟨rfl, (unhide HF).2⟩
  | true =>
    rw [hm0] at HMx
    go_wp2_with fail
    refine (unhide HMx _).mono ?_
    rintro e wm0 ⟨rfl, hxm⟩
    have H1 := hide (Reg.ext hxm (unhide H0))
    clear hxm HMx H0
    rw [if_neg (by simp [hm0])] at hU
    obtain ⟨c0, k0⟩ := (unhide H1).at (w.heap.size) (a) (by simp)
    by_cases e1 : o = [45]
    · subst e1
      rw [if_pos (by decide)] at hU
      have HNx := unhide HNU a
      clear c0 k0
      cases hn : numP a with
      | true =>
        rw [hn] at hU HNx
        subst hU
        go_upto_region 3 with fail
        refine wp_region_noPanic ?_
        refine wp_region_held_drew (S := fun wx => Reg w [(w.heap.size, a)] (w.heap.size + 1) wx) (by kernel_rfl) ((unhide H1).drew) (fun HS => ?_)
        refine wpAnyH_take (i := 0) (oi := { dst := some 10, op := Op.move (Operand.tmp 0), type := _, pos := _, after := _, guard := none }) (v := .string ⟨#[45]⟩) rfl (by kernel_rfl) (by kernel_rfl) (by kernel_rfl) (fun _ _ _ h => h) (Or.inl ⟨by rfl, fun wx hx => by go_simp⟩) HS ?_
        simp only [Act.put, List.setIfInBounds_toArray, List.set_cons_zero, List.set_cons_succ]
        refine wpAnyH_take (i := 1) (oi := { dst := some 11, op := Op.binOp BinOp.eql _ (Operand.tmp 10) (Operand.const (Value.string { data := #[45] })) _, type := _, pos := _, after := _, guard := none }) (v := .bool (true)) rfl (by kernel_rfl) (by kernel_rfl) (by kernel_rfl) (fun _ _ _ h => h) (Or.inl ⟨by rfl, fun wx hx => by go_simp⟩) HS ?_
        simp only [Act.put, List.setIfInBounds_toArray, List.set_cons_zero, List.set_cons_succ]
        refine wpAnyH_take (i := 2) (oi := { dst := some 12, op := Op.move (Operand.tmp 11), type := _, pos := _, after := _, guard := none }) (v := .bool (true)) rfl (by kernel_rfl) (by kernel_rfl) (by kernel_rfl) (fun _ _ _ h => h) (Or.inl ⟨by rfl, fun wx hx => by go_simp⟩) HS ?_
        simp only [Act.put, List.setIfInBounds_toArray, List.set_cons_zero, List.set_cons_succ]
        refine wpAnyH_take (i := 3) (oi := { dst := some 13, op := Op.load _ (Operand.tmp 3), type := _, pos := _, after := _, guard := some (2, true) }) (v := .agg #[.int .i64 (a).1, .int .i64 (a).2]) rfl (by kernel_rfl) (by kernel_rfl) (by kernel_rfl) (fun _ _ _ h => h) (Or.inl ⟨by rfl, fun wx hx => by obtain ⟨c0, c1⟩ := hx.at (w.heap.size) (a) (by simp); go_simp⟩) HS ?_
        simp only [Act.put, List.setIfInBounds_toArray, List.set_cons_zero, List.set_cons_succ]
        refine wpAnyH_ready (rs := [4]) (by kernel_rfl) (by simp) (AllReadyH.cons (o := { dst := some 14, op := Op.call { callee := Callee.value (Operand.func _), args := #[Operand.tmp 13], argTypes := _ }, type := _, pos := _, after := _, guard := some (2, true) }) rfl (fun KK hK => ?_) AllReadyH.nil)
        go_simp
        refine (HNx _).mono ?_
        rintro e ws ⟨rfl, hxs⟩
        have HS2 := Reg.ext hxs HS
        clear hxs HS
        have HS := HS2
        clear HS2
        refine hK.out _ _ HS (fun _ => ?_)
        clear hK KK
        try simp only [Act.put, List.setIfInBounds_toArray, List.set_cons_zero, List.set_cons_succ]
        refine wpAnyH_take (i := 5) (oi := { dst := some 15, op := Op.pick (Operand.tmp 12) (Operand.tmp 14) (Operand.const (Value.bool false)), type := _, pos := _, after := _, guard := none }) (v := .bool (true)) rfl (by kernel_rfl) (by kernel_rfl) (by kernel_rfl) (fun _ _ _ h => h) (Or.inl ⟨by rfl, fun wx hx => by go_simp⟩) HS ?_
        simp only [Act.put, List.setIfInBounds_toArray, List.set_cons_zero, List.set_cons_succ]
        refine wpAnyH_take (i := 6) (oi := { dst := some 16, op := Op.move (Operand.tmp 15), type := _, pos := _, after := _, guard := none }) (v := .bool (true)) rfl (by kernel_rfl) (by kernel_rfl) (by kernel_rfl) (fun _ _ _ h => h) (Or.inl ⟨by rfl, fun wx hx => by go_simp⟩) HS ?_
        simp only [Act.put, List.setIfInBounds_toArray, List.set_cons_zero, List.set_cons_succ]
        refine wpAnyH_take (i := 7) (oi := { dst := some 17, op := Op.move (Operand.tmp 0), type := _, pos := _, after := _, guard := some (6, false) }) (v := undef) rfl (by kernel_rfl) (by kernel_rfl) (by kernel_rfl) (fun _ _ _ h => h) (Or.inr ⟨by rfl, rfl⟩) HS ?_
        simp only [Act.put, List.setIfInBounds_toArray, List.set_cons_zero, List.set_cons_succ]
        refine wpAnyH_take (i := 8) (oi := { dst := some 18, op := Op.binOp BinOp.eql _ (Operand.tmp 17) (Operand.const (Value.string { data := #[33] })) _, type := _, pos := _, after := _, guard := some (6, false) }) (v := undef) rfl (by kernel_rfl) (by kernel_rfl) (by kernel_rfl) (fun _ _ _ h => h) (Or.inr ⟨by rfl, rfl⟩) HS ?_
        simp only [Act.put, List.setIfInBounds_toArray, List.set_cons_zero, List.set_cons_succ]
        refine wpAnyH_take (i := 9) (oi := { dst := some 19, op := Op.move (Operand.tmp 18), type := _, pos := _, after := _, guard := some (6, false) }) (v := undef) rfl (by kernel_rfl) (by kernel_rfl) (by kernel_rfl) (fun _ _ _ h => h) (Or.inr ⟨by rfl, rfl⟩) HS ?_
        simp only [Act.put, List.setIfInBounds_toArray, List.set_cons_zero, List.set_cons_succ]
        refine wpAnyH_take (i := 10) (oi := { dst := some 20, op := Op.load _ (Operand.tmp 3), type := _, pos := _, after := _, guard := some (9, true) }) (v := undef) rfl (by kernel_rfl) (by kernel_rfl) (by kernel_rfl) (fun _ _ _ h => h) (Or.inr ⟨by rfl, rfl⟩) HS ?_
        simp only [Act.put, List.setIfInBounds_toArray, List.set_cons_zero, List.set_cons_succ]
        refine wpAnyH_take (i := 11) (oi := { dst := some 21, op := Op.call { callee := Callee.value (Operand.func _), args := #[], argTypes := _ }, type := _, pos := _, after := _, guard := some (9, true) }) (v := undef) rfl (by kernel_rfl) (by kernel_rfl) (by kernel_rfl) (fun _ _ _ h => h) (Or.inr ⟨by rfl, rfl⟩) HS ?_
        simp only [Act.put, List.setIfInBounds_toArray, List.set_cons_zero, List.set_cons_succ]
        refine wpAnyH_take (i := 12) (oi := { dst := some 22, op := Op.binOp BinOp.eql _ (Operand.tmp 20) (Operand.tmp 21) _, type := _, pos := _, after := _, guard := some (9, true) }) (v := undef) rfl (by kernel_rfl) (by kernel_rfl) (by kernel_rfl) (fun _ _ _ h => h) (Or.inr ⟨by rfl, rfl⟩) HS ?_
        simp only [Act.put, List.setIfInBounds_toArray, List.set_cons_zero, List.set_cons_succ]
        refine wpAnyH_take (i := 13) (oi := { dst := some 23, op := Op.pick (Operand.tmp 19) (Operand.tmp 22) (Operand.const (Value.bool false)), type := _, pos := _, after := _, guard := some (6, false) }) (v := undef) rfl (by kernel_rfl) (by kernel_rfl) (by kernel_rfl) (fun _ _ _ h => h) (Or.inr ⟨by rfl, rfl⟩) HS ?_
        simp only [Act.put, List.setIfInBounds_toArray, List.set_cons_zero, List.set_cons_succ]
        refine wpAnyH_take (i := 14) (oi := { dst := some 24, op := Op.pick (Operand.tmp 16) (Operand.const (Value.bool true)) (Operand.tmp 23), type := _, pos := _, after := _, guard := none }) (v := .bool (true)) rfl (by kernel_rfl) (by kernel_rfl) (by kernel_rfl) (fun _ _ _ h => h) (Or.inl ⟨by rfl, fun wx hx => by go_simp⟩) HS ?_
        simp only [Act.put, List.setIfInBounds_toArray, List.set_cons_zero, List.set_cons_succ]
        refine wpAnyH_done (by kernel_rfl) ?_ _
        refine NoPanic.normal ?_
        obtain ⟨c0, k0⟩ := HS.at (w.heap.size) (a) (by simp)
        obtain ⟨x, y, r0, r1, z0, z1⟩ := HS.res
        have HF := hide (HS.fin (.int .i64 (a).1) (.int .i64 (a).2))
        clear HS
        go_wp2
        obtain ⟨s0, s1⟩ := (unhide HF).1.two
        exact bodyPost_ret (v := .tuple #[.agg #[.int .i64 (a).1, .int .i64 (a).2], .int .i64 0]) (by simp [results, Try.results18, go_sem, s0, s1, noT]) rfl ⟨rfl, (unhide HF).2⟩
      | false =>
        rw [hn] at hU HNx
        subst hU
        go_upto_region 3 with fail
        refine wp_region_noPanic ?_
        refine wp_region_held_drew (S := fun wx => Reg w [(w.heap.size, a)] (w.heap.size + 1) wx) (by kernel_rfl) ((unhide H1).drew) (fun HS => ?_)
        refine wpAnyH_take (i := 0) (oi := { dst := some 10, op := Op.move (Operand.tmp 0), type := _, pos := _, after := _, guard := none }) (v := .string ⟨#[45]⟩) rfl (by kernel_rfl) (by kernel_rfl) (by kernel_rfl) (fun _ _ _ h => h) (Or.inl ⟨by rfl, fun wx hx => by go_simp⟩) HS ?_
        simp only [Act.put, List.setIfInBounds_toArray, List.set_cons_zero, List.set_cons_succ]
        refine wpAnyH_take (i := 1) (oi := { dst := some 11, op := Op.binOp BinOp.eql _ (Operand.tmp 10) (Operand.const (Value.string { data := #[45] })) _, type := _, pos := _, after := _, guard := none }) (v := .bool (true)) rfl (by kernel_rfl) (by kernel_rfl) (by kernel_rfl) (fun _ _ _ h => h) (Or.inl ⟨by rfl, fun wx hx => by go_simp⟩) HS ?_
        simp only [Act.put, List.setIfInBounds_toArray, List.set_cons_zero, List.set_cons_succ]
        refine wpAnyH_take (i := 2) (oi := { dst := some 12, op := Op.move (Operand.tmp 11), type := _, pos := _, after := _, guard := none }) (v := .bool (true)) rfl (by kernel_rfl) (by kernel_rfl) (by kernel_rfl) (fun _ _ _ h => h) (Or.inl ⟨by rfl, fun wx hx => by go_simp⟩) HS ?_
        simp only [Act.put, List.setIfInBounds_toArray, List.set_cons_zero, List.set_cons_succ]
        refine wpAnyH_take (i := 3) (oi := { dst := some 13, op := Op.load _ (Operand.tmp 3), type := _, pos := _, after := _, guard := some (2, true) }) (v := .agg #[.int .i64 (a).1, .int .i64 (a).2]) rfl (by kernel_rfl) (by kernel_rfl) (by kernel_rfl) (fun _ _ _ h => h) (Or.inl ⟨by rfl, fun wx hx => by obtain ⟨c0, c1⟩ := hx.at (w.heap.size) (a) (by simp); go_simp⟩) HS ?_
        simp only [Act.put, List.setIfInBounds_toArray, List.set_cons_zero, List.set_cons_succ]
        refine wpAnyH_ready (rs := [4]) (by kernel_rfl) (by simp) (AllReadyH.cons (o := { dst := some 14, op := Op.call { callee := Callee.value (Operand.func _), args := #[Operand.tmp 13], argTypes := _ }, type := _, pos := _, after := _, guard := some (2, true) }) rfl (fun KK hK => ?_) AllReadyH.nil)
        go_simp
        refine (HNx _).mono ?_
        rintro e ws ⟨rfl, hxs⟩
        have HS2 := Reg.ext hxs HS
        clear hxs HS
        have HS := HS2
        clear HS2
        refine hK.out _ _ HS (fun _ => ?_)
        clear hK KK
        try simp only [Act.put, List.setIfInBounds_toArray, List.set_cons_zero, List.set_cons_succ]
        refine wpAnyH_take (i := 5) (oi := { dst := some 15, op := Op.pick (Operand.tmp 12) (Operand.tmp 14) (Operand.const (Value.bool false)), type := _, pos := _, after := _, guard := none }) (v := .bool (false)) rfl (by kernel_rfl) (by kernel_rfl) (by kernel_rfl) (fun _ _ _ h => h) (Or.inl ⟨by rfl, fun wx hx => by go_simp⟩) HS ?_
        simp only [Act.put, List.setIfInBounds_toArray, List.set_cons_zero, List.set_cons_succ]
        refine wpAnyH_take (i := 6) (oi := { dst := some 16, op := Op.move (Operand.tmp 15), type := _, pos := _, after := _, guard := none }) (v := .bool (false)) rfl (by kernel_rfl) (by kernel_rfl) (by kernel_rfl) (fun _ _ _ h => h) (Or.inl ⟨by rfl, fun wx hx => by go_simp⟩) HS ?_
        simp only [Act.put, List.setIfInBounds_toArray, List.set_cons_zero, List.set_cons_succ]
        refine wpAnyH_take (i := 7) (oi := { dst := some 17, op := Op.move (Operand.tmp 0), type := _, pos := _, after := _, guard := some (6, false) }) (v := .string ⟨#[45]⟩) rfl (by kernel_rfl) (by kernel_rfl) (by kernel_rfl) (fun _ _ _ h => h) (Or.inl ⟨by rfl, fun wx hx => by go_simp⟩) HS ?_
        simp only [Act.put, List.setIfInBounds_toArray, List.set_cons_zero, List.set_cons_succ]
        refine wpAnyH_take (i := 8) (oi := { dst := some 18, op := Op.binOp BinOp.eql _ (Operand.tmp 17) (Operand.const (Value.string { data := #[33] })) _, type := _, pos := _, after := _, guard := some (6, false) }) (v := .bool (false)) rfl (by kernel_rfl) (by kernel_rfl) (by kernel_rfl) (fun _ _ _ h => h) (Or.inl ⟨by rfl, fun wx hx => by go_simp⟩) HS ?_
        simp only [Act.put, List.setIfInBounds_toArray, List.set_cons_zero, List.set_cons_succ]
        refine wpAnyH_take (i := 9) (oi := { dst := some 19, op := Op.move (Operand.tmp 18), type := _, pos := _, after := _, guard := some (6, false) }) (v := .bool (false)) rfl (by kernel_rfl) (by kernel_rfl) (by kernel_rfl) (fun _ _ _ h => h) (Or.inl ⟨by rfl, fun wx hx => by go_simp⟩) HS ?_
        simp only [Act.put, List.setIfInBounds_toArray, List.set_cons_zero, List.set_cons_succ]
        refine wpAnyH_take (i := 10) (oi := { dst := some 20, op := Op.load _ (Operand.tmp 3), type := _, pos := _, after := _, guard := some (9, true) }) (v := undef) rfl (by kernel_rfl) (by kernel_rfl) (by kernel_rfl) (fun _ _ _ h => h) (Or.inr ⟨by rfl, rfl⟩) HS ?_
        simp only [Act.put, List.setIfInBounds_toArray, List.set_cons_zero, List.set_cons_succ]
        refine wpAnyH_take (i := 11) (oi := { dst := some 21, op := Op.call { callee := Callee.value (Operand.func _), args := #[], argTypes := _ }, type := _, pos := _, after := _, guard := some (9, true) }) (v := undef) rfl (by kernel_rfl) (by kernel_rfl) (by kernel_rfl) (fun _ _ _ h => h) (Or.inr ⟨by rfl, rfl⟩) HS ?_
        simp only [Act.put, List.setIfInBounds_toArray, List.set_cons_zero, List.set_cons_succ]
        refine wpAnyH_take (i := 12) (oi := { dst := some 22, op := Op.binOp BinOp.eql _ (Operand.tmp 20) (Operand.tmp 21) _, type := _, pos := _, after := _, guard := some (9, true) }) (v := undef) rfl (by kernel_rfl) (by kernel_rfl) (by kernel_rfl) (fun _ _ _ h => h) (Or.inr ⟨by rfl, rfl⟩) HS ?_
        simp only [Act.put, List.setIfInBounds_toArray, List.set_cons_zero, List.set_cons_succ]
        refine wpAnyH_take (i := 13) (oi := { dst := some 23, op := Op.pick (Operand.tmp 19) (Operand.tmp 22) (Operand.const (Value.bool false)), type := _, pos := _, after := _, guard := some (6, false) }) (v := .bool (false)) rfl (by kernel_rfl) (by kernel_rfl) (by kernel_rfl) (fun _ _ _ h => h) (Or.inl ⟨by rfl, fun wx hx => by go_simp⟩) HS ?_
        simp only [Act.put, List.setIfInBounds_toArray, List.set_cons_zero, List.set_cons_succ]
        refine wpAnyH_take (i := 14) (oi := { dst := some 24, op := Op.pick (Operand.tmp 16) (Operand.const (Value.bool true)) (Operand.tmp 23), type := _, pos := _, after := _, guard := none }) (v := .bool (false)) rfl (by kernel_rfl) (by kernel_rfl) (by kernel_rfl) (fun _ _ _ h => h) (Or.inl ⟨by rfl, fun wx hx => by go_simp⟩) HS ?_
        simp only [Act.put, List.setIfInBounds_toArray, List.set_cons_zero, List.set_cons_succ]
        refine wpAnyH_done (by kernel_rfl) ?_ _
        refine NoPanic.normal ?_
        obtain ⟨c0, k0⟩ := HS.at (w.heap.size) (a) (by simp)
        obtain ⟨x, y, r0, r1, z0, z1⟩ := HS.res
        have HF := hide (HS.fin (.int .i64 0) (.int .i64 0))
        clear HS
        go_wp2
        obtain ⟨s0, s1⟩ := (unhide HF).1.two
        exact bodyPost_ret (v := .tuple #[.agg #[.int .i64 (noT).1, .int .i64 (noT).2], .int .i64 230]) (by simp [results, Try.results18, go_sem, s0, s1, noT]) rfl ⟨rfl, (unhide HF).2⟩
    · have f1 : (o == [45]) = false := beq_eq_false_iff_ne.2 e1
      rw [if_neg (by rw [f1]; decide)] at hU
      clear e1
      by_cases e2 : o = [33]
      · subst e2
        rw [if_pos (by decide)] at hU
        clear c0 k0 f1
        cases hq : eqT a truT with
        | true =>
          rw [hq] at hU
          have eq := eqT_iff.1 hq
          subst eq
          have q1 : ((truT).1 == (truT).1) = true := by simp
          have q2 : ((truT).2 == (truT).2) = true := by simp
          subst hU
          go_upto_region 3 with fail
          refine wp_region_noPanic ?_
          refine wp_region_held_drew (S := fun wx => Reg w [(w.heap.size, truT)] (w.heap.size + 1) wx) (by kernel_rfl) ((unhide H1).drew) (fun HS => ?_)
          refine wpAnyH_take (i := 0) (oi := { dst := some 10, op := Op.move (Operand.tmp 0), type := _, pos := _, after := _, guard := none }) (v := .string ⟨#[33]⟩) rfl (by kernel_rfl) (by kernel_rfl) (by kernel_rfl) (fun _ _ _ h => h) (Or.inl ⟨by rfl, fun wx hx => by go_simp⟩) HS ?_
          simp only [Act.put, List.setIfInBounds_toArray, List.set_cons_zero, List.set_cons_succ]
          refine wpAnyH_take (i := 1) (oi := { dst := some 11, op := Op.binOp BinOp.eql _ (Operand.tmp 10) (Operand.const (Value.string { data := #[45] })) _, type := _, pos := _, after := _, guard := none }) (v := .bool (false)) rfl (by kernel_rfl) (by kernel_rfl) (by kernel_rfl) (fun _ _ _ h => h) (Or.inl ⟨by rfl, fun wx hx => by go_simp⟩) HS ?_
          simp only [Act.put, List.setIfInBounds_toArray, List.set_cons_zero, List.set_cons_succ]
          refine wpAnyH_take (i := 2) (oi := { dst := some 12, op := Op.move (Operand.tmp 11), type := _, pos := _, after := _, guard := none }) (v := .bool (false)) rfl (by kernel_rfl) (by kernel_rfl) (by kernel_rfl) (fun _ _ _ h => h) (Or.inl ⟨by rfl, fun wx hx => by go_simp⟩) HS ?_
          simp only [Act.put, List.setIfInBounds_toArray, List.set_cons_zero, List.set_cons_succ]
          refine wpAnyH_take (i := 3) (oi := { dst := some 13, op := Op.load _ (Operand.tmp 3), type := _, pos := _, after := _, guard := some (2, true) }) (v := undef) rfl (by kernel_rfl) (by kernel_rfl) (by kernel_rfl) (fun _ _ _ h => h) (Or.inr ⟨by rfl, rfl⟩) HS ?_
          simp only [Act.put, List.setIfInBounds_toArray, List.set_cons_zero, List.set_cons_succ]
          refine wpAnyH_take (i := 4) (oi := { dst := some 14, op := Op.call { callee := Callee.value (Operand.func _), args := #[Operand.tmp 13], argTypes := _ }, type := _, pos := _, after := _, guard := some (2, true) }) (v := undef) rfl (by kernel_rfl) (by kernel_rfl) (by kernel_rfl) (fun _ _ _ h => h) (Or.inr ⟨by rfl, rfl⟩) HS ?_
          simp only [Act.put, List.setIfInBounds_toArray, List.set_cons_zero, List.set_cons_succ]
          refine wpAnyH_take (i := 5) (oi := { dst := some 15, op := Op.pick (Operand.tmp 12) (Operand.tmp 14) (Operand.const (Value.bool false)), type := _, pos := _, after := _, guard := none }) (v := .bool (false)) rfl (by kernel_rfl) (by kernel_rfl) (by kernel_rfl) (fun _ _ _ h => h) (Or.inl ⟨by rfl, fun wx hx => by go_simp⟩) HS ?_
          simp only [Act.put, List.setIfInBounds_toArray, List.set_cons_zero, List.set_cons_succ]
          refine wpAnyH_take (i := 6) (oi := { dst := some 16, op := Op.move (Operand.tmp 15), type := _, pos := _, after := _, guard := none }) (v := .bool (false)) rfl (by kernel_rfl) (by kernel_rfl) (by kernel_rfl) (fun _ _ _ h => h) (Or.inl ⟨by rfl, fun wx hx => by go_simp⟩) HS ?_
          simp only [Act.put, List.setIfInBounds_toArray, List.set_cons_zero, List.set_cons_succ]
          refine wpAnyH_take (i := 7) (oi := { dst := some 17, op := Op.move (Operand.tmp 0), type := _, pos := _, after := _, guard := some (6, false) }) (v := .string ⟨#[33]⟩) rfl (by kernel_rfl) (by kernel_rfl) (by kernel_rfl) (fun _ _ _ h => h) (Or.inl ⟨by rfl, fun wx hx => by go_simp⟩) HS ?_
          simp only [Act.put, List.setIfInBounds_toArray, List.set_cons_zero, List.set_cons_succ]
          refine wpAnyH_take (i := 8) (oi := { dst := some 18, op := Op.binOp BinOp.eql _ (Operand.tmp 17) (Operand.const (Value.string { data := #[33] })) _, type := _, pos := _, after := _, guard := some (6, false) }) (v := .bool (true)) rfl (by kernel_rfl) (by kernel_rfl) (by kernel_rfl) (fun _ _ _ h => h) (Or.inl ⟨by rfl, fun wx hx => by go_simp⟩) HS ?_
          simp only [Act.put, List.setIfInBounds_toArray, List.set_cons_zero, List.set_cons_succ]
          refine wpAnyH_take (i := 9) (oi := { dst := some 19, op := Op.move (Operand.tmp 18), type := _, pos := _, after := _, guard := some (6, false) }) (v := .bool (true)) rfl (by kernel_rfl) (by kernel_rfl) (by kernel_rfl) (fun _ _ _ h => h) (Or.inl ⟨by rfl, fun wx hx => by go_simp⟩) HS ?_
          simp only [Act.put, List.setIfInBounds_toArray, List.set_cons_zero, List.set_cons_succ]
          refine wpAnyH_take (i := 10) (oi := { dst := some 20, op := Op.load _ (Operand.tmp 3), type := _, pos := _, after := _, guard := some (9, true) }) (v := .agg #[.int .i64 (truT).1, .int .i64 (truT).2]) rfl (by kernel_rfl) (by kernel_rfl) (by kernel_rfl) (fun _ _ _ h => h) (Or.inl ⟨by rfl, fun wx hx => by obtain ⟨c0, c1⟩ := hx.at (w.heap.size) (truT) (by simp); go_simp⟩) HS ?_
          simp only [Act.put, List.setIfInBounds_toArray, List.set_cons_zero, List.set_cons_succ]
          refine wpAnyH_ready (rs := [11]) (by kernel_rfl) (by simp) (AllReadyH.cons (o := { dst := some 21, op := Op.call { callee := Callee.value (Operand.func _), args := #[], argTypes := _ }, type := _, pos := _, after := _, guard := some (9, true) }) rfl (fun KK hK => ?_) AllReadyH.nil)
          go_simp
          refine (unhide HTR _).mono ?_
          rintro e ws ⟨rfl, hxs⟩
          have HS2 := Reg.ext hxs HS
          clear hxs HS
          have HS := HS2
          clear HS2
          refine hK.out _ _ HS (fun _ => ?_)
          clear hK KK
          try simp only [Act.put, List.setIfInBounds_toArray, List.set_cons_zero, List.set_cons_succ]
          refine wpAnyH_take (i := 12) (oi := { dst := some 22, op := Op.binOp BinOp.eql _ (Operand.tmp 20) (Operand.tmp 21) _, type := _, pos := _, after := _, guard := some (9, true) }) (v := .bool (true)) rfl (by kernel_rfl) (by kernel_rfl) (by kernel_rfl) (fun _ _ _ h => h) (Or.inl ⟨by rfl, fun wx hx => by go_simp⟩) HS ?_
          simp only [Act.put, List.setIfInBounds_toArray, List.set_cons_zero, List.set_cons_succ]
          refine wpAnyH_take (i := 13) (oi := { dst := some 23, op := Op.pick (Operand.tmp 19) (Operand.tmp 22) (Operand.const (Value.bool false)), type := _, pos := _, after := _, guard := some (6, false) }) (v := .bool (true)) rfl (by kernel_rfl) (by kernel_rfl) (by kernel_rfl) (fun _ _ _ h => h) (Or.inl ⟨by rfl, fun wx hx => by go_simp⟩) HS ?_
          simp only [Act.put, List.setIfInBounds_toArray, List.set_cons_zero, List.set_cons_succ]
          refine wpAnyH_take (i := 14) (oi := { dst := some 24, op := Op.pick (Operand.tmp 16) (Operand.const (Value.bool true)) (Operand.tmp 23), type := _, pos := _, after := _, guard := none }) (v := .bool (true)) rfl (by kernel_rfl) (by kernel_rfl) (by kernel_rfl) (fun _ _ _ h => h) (Or.inl ⟨by rfl, fun wx hx => by go_simp⟩) HS ?_
          simp only [Act.put, List.setIfInBounds_toArray, List.set_cons_zero, List.set_cons_succ]
          refine wpAnyH_done (by kernel_rfl) ?_ _
          refine NoPanic.normal ?_
          obtain ⟨c0, k0⟩ := HS.at (w.heap.size) (truT) (by simp)
          obtain ⟨x, y, r0, r1, z0, z1⟩ := HS.res
          have HF := hide (HS.fin (.int .i64 (truT).1) (.int .i64 (truT).2))
          clear HS
          go_wp2
          obtain ⟨s0, s1⟩ := (unhide HF).1.two
          exact bodyPost_ret (v := .tuple #[.agg #[.int .i64 (truT).1, .int .i64 (truT).2], .int .i64 0]) (by simp [results, Try.results18, go_sem, s0, s1, noT]) rfl ⟨rfl, (unhide HF).2⟩
        | false =>
          rw [hq] at hU
          rcases eqT_cases hq with q1 | ⟨q1, q2⟩ <;>
          · clear hq
            subst hU
            go_upto_region 3 with fail
            refine wp_region_noPanic ?_
            refine wp_region_held_drew (S := fun wx => Reg w [(w.heap.size, a)] (w.heap.size + 1) wx) (by kernel_rfl) ((unhide H1).drew) (fun HS => ?_)
            refine wpAnyH_take (i := 0) (oi := { dst := some 10, op := Op.move (Operand.tmp 0), type := _, pos := _, after := _, guard := none }) (v := .string ⟨#[33]⟩) rfl (by kernel_rfl) (by kernel_rfl) (by kernel_rfl) (fun _ _ _ h => h) (Or.inl ⟨by rfl, fun wx hx => by go_simp⟩) HS ?_
            simp only [Act.put, List.setIfInBounds_toArray, List.set_cons_zero, List.set_cons_succ]
            refine wpAnyH_take (i := 1) (oi := { dst := some 11, op := Op.binOp BinOp.eql _ (Operand.tmp 10) (Operand.const (Value.string { data := #[45] })) _, type := _, pos := _, after := _, guard := none }) (v := .bool (false)) rfl (by kernel_rfl) (by kernel_rfl) (by kernel_rfl) (fun _ _ _ h => h) (Or.inl ⟨by rfl, fun wx hx => by go_simp⟩) HS ?_
            simp only [Act.put, List.setIfInBounds_toArray, List.set_cons_zero, List.set_cons_succ]
            refine wpAnyH_take (i := 2) (oi := { dst := some 12, op := Op.move (Operand.tmp 11), type := _, pos := _, after := _, guard := none }) (v := .bool (false)) rfl (by kernel_rfl) (by kernel_rfl) (by kernel_rfl) (fun _ _ _ h => h) (Or.inl ⟨by rfl, fun wx hx => by go_simp⟩) HS ?_
            simp only [Act.put, List.setIfInBounds_toArray, List.set_cons_zero, List.set_cons_succ]
            refine wpAnyH_take (i := 3) (oi := { dst := some 13, op := Op.load _ (Operand.tmp 3), type := _, pos := _, after := _, guard := some (2, true) }) (v := undef) rfl (by kernel_rfl) (by kernel_rfl) (by kernel_rfl) (fun _ _ _ h => h) (Or.inr ⟨by rfl, rfl⟩) HS ?_
            simp only [Act.put, List.setIfInBounds_toArray, List.set_cons_zero, List.set_cons_succ]
            refine wpAnyH_take (i := 4) (oi := { dst := some 14, op := Op.call { callee := Callee.value (Operand.func _), args := #[Operand.tmp 13], argTypes := _ }, type := _, pos := _, after := _, guard := some (2, true) }) (v := undef) rfl (by kernel_rfl) (by kernel_rfl) (by kernel_rfl) (fun _ _ _ h => h) (Or.inr ⟨by rfl, rfl⟩) HS ?_
            simp only [Act.put, List.setIfInBounds_toArray, List.set_cons_zero, List.set_cons_succ]
            refine wpAnyH_take (i := 5) (oi := { dst := some 15, op := Op.pick (Operand.tmp 12) (Operand.tmp 14) (Operand.const (Value.bool false)), type := _, pos := _, after := _, guard := none }) (v := .bool (false)) rfl (by kernel_rfl) (by kernel_rfl) (by kernel_rfl) (fun _ _ _ h => h) (Or.inl ⟨by rfl, fun wx hx => by go_simp⟩) HS ?_
            simp only [Act.put, List.setIfInBounds_toArray, List.set_cons_zero, List.set_cons_succ]
            refine wpAnyH_take (i := 6) (oi := { dst := some 16, op := Op.move (Operand.tmp 15), type := _, pos := _, after := _, guard := none }) (v := .bool (false)) rfl (by kernel_rfl) (by kernel_rfl) (by kernel_rfl) (fun _ _ _ h => h) (Or.inl ⟨by rfl, fun wx hx => by go_simp⟩) HS ?_
            simp only [Act.put, List.setIfInBounds_toArray, List.set_cons_zero, List.set_cons_succ]
            refine wpAnyH_take (i := 7) (oi := { dst := some 17, op := Op.move (Operand.tmp 0), type := _, pos := _, after := _, guard := some (6, false) }) (v := .string ⟨#[33]⟩) rfl (by kernel_rfl) (by kernel_rfl) (by kernel_rfl) (fun _ _ _ h => h) (Or.inl ⟨by rfl, fun wx hx => by go_simp⟩) HS ?_
            simp only [Act.put, List.setIfInBounds_toArray, List.set_cons_zero, List.set_cons_succ]
            refine wpAnyH_take (i := 8) (oi := { dst := some 18, op := Op.binOp BinOp.eql _ (Operand.tmp 17) (Operand.const (Value.string { data := #[33] })) _, type := _, pos := _, after := _, guard := some (6, false) }) (v := .bool (true)) rfl (by kernel_rfl) (by kernel_rfl) (by kernel_rfl) (fun _ _ _ h => h) (Or.inl ⟨by rfl, fun wx hx => by go_simp⟩) HS ?_
            simp only [Act.put, List.setIfInBounds_toArray, List.set_cons_zero, List.set_cons_succ]
            refine wpAnyH_take (i := 9) (oi := { dst := some 19, op := Op.move (Operand.tmp 18), type := _, pos := _, after := _, guard := some (6, false) }) (v := .bool (true)) rfl (by kernel_rfl) (by kernel_rfl) (by kernel_rfl) (fun _ _ _ h => h) (Or.inl ⟨by rfl, fun wx hx => by go_simp⟩) HS ?_
            simp only [Act.put, List.setIfInBounds_toArray, List.set_cons_zero, List.set_cons_succ]
            refine wpAnyH_take (i := 10) (oi := { dst := some 20, op := Op.load _ (Operand.tmp 3), type := _, pos := _, after := _, guard := some (9, true) }) (v := .agg #[.int .i64 (a).1, .int .i64 (a).2]) rfl (by kernel_rfl) (by kernel_rfl) (by kernel_rfl) (fun _ _ _ h => h) (Or.inl ⟨by rfl, fun wx hx => by obtain ⟨c0, c1⟩ := hx.at (w.heap.size) (a) (by simp); go_simp⟩) HS ?_
            simp only [Act.put, List.setIfInBounds_toArray, List.set_cons_zero, List.set_cons_succ]
            refine wpAnyH_ready (rs := [11]) (by kernel_rfl) (by simp) (AllReadyH.cons (o := { dst := some 21, op := Op.call { callee := Callee.value (Operand.func _), args := #[], argTypes := _ }, type := _, pos := _, after := _, guard := some (9, true) }) rfl (fun KK hK => ?_) AllReadyH.nil)
            go_simp
            refine (unhide HTR _).mono ?_
            rintro e ws ⟨rfl, hxs⟩
            have HS2 := Reg.ext hxs HS
            clear hxs HS
            have HS := HS2
            clear HS2
            refine hK.out _ _ HS (fun _ => ?_)
            clear hK KK
            try simp only [Act.put, List.setIfInBounds_toArray, List.set_cons_zero, List.set_cons_succ]
            refine wpAnyH_take (i := 12) (oi := { dst := some 22, op := Op.binOp BinOp.eql _ (Operand.tmp 20) (Operand.tmp 21) _, type := _, pos := _, after := _, guard := some (9, true) }) (v := .bool (false)) rfl (by kernel_rfl) (by kernel_rfl) (by kernel_rfl) (fun _ _ _ h => h) (Or.inl ⟨by rfl, fun wx hx => by go_simp⟩) HS ?_
            simp only [Act.put, List.setIfInBounds_toArray, List.set_cons_zero, List.set_cons_succ]
            refine wpAnyH_take (i := 13) (oi := { dst := some 23, op := Op.pick (Operand.tmp 19) (Operand.tmp 22) (Operand.const (Value.bool false)), type := _, pos := _, after := _, guard := some (6, false) }) (v := .bool (false)) rfl (by kernel_rfl) (by kernel_rfl) (by kernel_rfl) (fun _ _ _ h => h) (Or.inl ⟨by rfl, fun wx hx => by go_simp⟩) HS ?_
            simp only [Act.put, List.setIfInBounds_toArray, List.set_cons_zero, List.set_cons_succ]
            refine wpAnyH_take (i := 14) (oi := { dst := some 24, op := Op.pick (Operand.tmp 16) (Operand.const (Value.bool true)) (Operand.tmp 23), type := _, pos := _, after := _, guard := none }) (v := .bool (false)) rfl (by kernel_rfl) (by kernel_rfl) (by kernel_rfl) (fun _ _ _ h => h) (Or.inl ⟨by rfl, fun wx hx => by go_simp⟩) HS ?_
            simp only [Act.put, List.setIfInBounds_toArray, List.set_cons_zero, List.set_cons_succ]
            refine wpAnyH_done (by kernel_rfl) ?_ _
            refine NoPanic.normal ?_
            obtain ⟨c0, k0⟩ := HS.at (w.heap.size) (a) (by simp)
            obtain ⟨x, y, r0, r1, z0, z1⟩ := HS.res
            have HF := hide (HS.fin (.int .i64 0) (.int .i64 0))
            clear HS
            go_wp2
            obtain ⟨s0, s1⟩ := (unhide HF).1.two
            exact bodyPost_ret (v := .tuple #[.agg #[.int .i64 (noT).1, .int .i64 (noT).2], .int .i64 230]) (by simp [results, Try.results18, go_sem, s0, s1, noT]) rfl ⟨rfl, (unhide HF).2⟩
      · have f2 : (o == [33]) = false := beq_eq_false_iff_ne.2 e2
        rw [if_neg (by rw [f2]; decide)] at hU
        clear e2 c0 k0
        subst hU
        go_upto_region 3 with fail
        refine wp_region_noPanic ?_
        refine wp_region_held_drew (S := fun wx => Reg w [(w.heap.size, a)] (w.heap.size + 1) wx) (by kernel_rfl) ((unhide H1).drew) (fun HS => ?_)
        refine wpAnyH_take (i := 0) (oi := { dst := some 10, op := Op.move (Operand.tmp 0), type := _, pos := _, after := _, guard := none }) (v := .string ⟨o.toArray⟩) rfl (by kernel_rfl) (by kernel_rfl) (by kernel_rfl) (fun _ _ _ h => h) (Or.inl ⟨by rfl, fun wx hx => by go_simp⟩) HS ?_
        simp only [Act.put, List.setIfInBounds_toArray, List.set_cons_zero, List.set_cons_succ]
        refine wpAnyH_take (i := 1) (oi := { dst := some 11, op := Op.binOp BinOp.eql _ (Operand.tmp 10) (Operand.const (Value.string { data := #[45] })) _, type := _, pos := _, after := _, guard := none }) (v := .bool (false)) rfl (by kernel_rfl) (by kernel_rfl) (by kernel_rfl) (fun _ _ _ h => h) (Or.inl ⟨by rfl, fun wx hx => by go_simp⟩) HS ?_
        simp only [Act.put, List.setIfInBounds_toArray, List.set_cons_zero, List.set_cons_succ]
        refine wpAnyH_take (i := 2) (oi := { dst := some 12, op := Op.move (Operand.tmp 11), type := _, pos := _, after := _, guard := none }) (v := .bool (false)) rfl (by kernel_rfl) (by kernel_rfl) (by kernel_rfl) (fun _ _ _ h => h) (Or.inl ⟨by rfl, fun wx hx => by go_simp⟩) HS ?_
        simp only [Act.put, List.setIfInBounds_toArray, List.set_cons_zero, List.set_cons_succ]
        refine wpAnyH_take (i := 3) (oi := { dst := some 13, op := Op.load _ (Operand.tmp 3), type := _, pos := _, after := _, guard := some (2, true) }) (v := undef) rfl (by kernel_rfl) (by kernel_rfl) (by kernel_rfl) (fun _ _ _ h => h) (Or.inr ⟨by rfl, rfl⟩) HS ?_
        simp only [Act.put, List.setIfInBounds_toArray, List.set_cons_zero, List.set_cons_succ]
        refine wpAnyH_take (i := 4) (oi := { dst := some 14, op := Op.call { callee := Callee.value (Operand.func _), args := #[Operand.tmp 13], argTypes := _ }, type := _, pos := _, after := _, guard := some (2, true) }) (v := undef) rfl (by kernel_rfl) (by kernel_rfl) (by kernel_rfl) (fun _ _ _ h => h) (Or.inr ⟨by rfl, rfl⟩) HS ?_
        simp only [Act.put, List.setIfInBounds_toArray, List.set_cons_zero, List.set_cons_succ]
        refine wpAnyH_take (i := 5) (oi := { dst := some 15, op := Op.pick (Operand.tmp 12) (Operand.tmp 14) (Operand.const (Value.bool false)), type := _, pos := _, after := _, guard := none }) (v := .bool (false)) rfl (by kernel_rfl) (by kernel_rfl) (by kernel_rfl) (fun _ _ _ h => h) (Or.inl ⟨by rfl, fun wx hx => by go_simp⟩) HS ?_
        simp only [Act.put, List.setIfInBounds_toArray, List.set_cons_zero, List.set_cons_succ]
        refine wpAnyH_take (i := 6) (oi := { dst := some 16, op := Op.move (Operand.tmp 15), type := _, pos := _, after := _, guard := none }) (v := .bool (false)) rfl (by kernel_rfl) (by kernel_rfl) (by kernel_rfl) (fun _ _ _ h => h) (Or.inl ⟨by rfl, fun wx hx => by go_simp⟩) HS ?_
        simp only [Act.put, List.setIfInBounds_toArray, List.set_cons_zero, List.set_cons_succ]
        refine wpAnyH_take (i := 7) (oi := { dst := some 17, op := Op.move (Operand.tmp 0), type := _, pos := _, after := _, guard := some (6, false) }) (v := .string ⟨o.toArray⟩) rfl (by kernel_rfl) (by kernel_rfl) (by kernel_rfl) (fun _ _ _ h => h) (Or.inl ⟨by rfl, fun wx hx => by go_simp⟩) HS ?_
        simp only [Act.put, List.setIfInBounds_toArray, List.set_cons_zero, List.set_cons_succ]
        refine wpAnyH_take (i := 8) (oi := { dst := some 18, op := Op.binOp BinOp.eql _ (Operand.tmp 17) (Operand.const (Value.string { data := #[33] })) _, type := _, pos := _, after := _, guard := some (6, false) }) (v := .bool (false)) rfl (by kernel_rfl) (by kernel_rfl) (by kernel_rfl) (fun _ _ _ h => h) (Or.inl ⟨by rfl, fun wx hx => by go_simp⟩) HS ?_
        simp only [Act.put, List.setIfInBounds_toArray, List.set_cons_zero, List.set_cons_succ]
        refine wpAnyH_take (i := 9) (oi := { dst := some 19, op := Op.move (Operand.tmp 18), type := _, pos := _, after := _, guard := some (6, false) }) (v := .bool (false)) rfl (by kernel_rfl) (by kernel_rfl) (by kernel_rfl) (fun _ _ _ h => h) (Or.inl ⟨by rfl, fun wx hx => by go_simp⟩) HS ?_
        simp only [Act.put, List.setIfInBounds_toArray, List.set_cons_zero, List.set_cons_succ]
        refine wpAnyH_take (i := 10) (oi := { dst := some 20, op := Op.load _ (Operand.tmp 3), type := _, pos := _, after := _, guard := some (9, true) }) (v := undef) rfl (by kernel_rfl) (by kernel_rfl) (by kernel_rfl) (fun _ _ _ h => h) (Or.inr ⟨by rfl, rfl⟩) HS ?_
        simp only [Act.put, List.setIfInBounds_toArray, List.set_cons_zero, List.set_cons_succ]
        refine wpAnyH_take (i := 11) (oi := { dst := some 21, op := Op.call { callee := Callee.value (Operand.func _), args := #[], argTypes := _ }, type := _, pos := _, after := _, guard := some (9, true) }) (v := undef) rfl (by kernel_rfl) (by kernel_rfl) (by kernel_rfl) (fun _ _ _ h => h) (Or.inr ⟨by rfl, rfl⟩) HS ?_
        simp only [Act.put, List.setIfInBounds_toArray, List.set_cons_zero, List.set_cons_succ]
        refine wpAnyH_take (i := 12) (oi := { dst := some 22, op := Op.binOp BinOp.eql _ (Operand.tmp 20) (Operand.tmp 21) _, type := _, pos := _, after := _, guard := some (9, true) }) (v := undef) rfl (by kernel_rfl) (by kernel_rfl) (by kernel_rfl) (fun _ _ _ h => h) (Or.inr ⟨by rfl, rfl⟩) HS ?_
        simp only [Act.put, List.setIfInBounds_toArray, List.set_cons_zero, List.set_cons_succ]
        refine wpAnyH_take (i := 13) (oi := { dst := some 23, op := Op.pick (Operand.tmp 19) (Operand.tmp 22) (Operand.const (Value.bool false)), type := _, pos := _, after := _, guard := some (6, false) }) (v := .bool (false)) rfl (by kernel_rfl) (by kernel_rfl) (by kernel_rfl) (fun _ _ _ h => h) (Or.inl ⟨by rfl, fun wx hx => by go_simp⟩) HS ?_
        simp only [Act.put, List.setIfInBounds_toArray, List.set_cons_zero, List.set_cons_succ]
        refine wpAnyH_take (i := 14) (oi := { dst := some 24, op := Op.pick (Operand.tmp 16) (Operand.const (Value.bool true)) (Operand.tmp 23), type := _, pos := _, after := _, guard := none }) (v := .bool (false)) rfl (by kernel_rfl) (by kernel_rfl) (by kernel_rfl) (fun _ _ _ h => h) (Or.inl ⟨by rfl, fun wx hx => by go_simp⟩) HS ?_
        simp only [Act.put, List.setIfInBounds_toArray, List.set_cons_zero, List.set_cons_succ]
        refine wpAnyH_done (by kernel_rfl) ?_ _
        refine NoPanic.normal ?_
        obtain ⟨c0, k0⟩ := (unhide H1).at (w.heap.size) (a) (by simp)
        obtain ⟨x, y, r0, r1, z0, z1⟩ := (unhide H1).res
        have HF := hide (And.intro (((unhide H1).fin (.int .i64 0) (.int .i64 0)).1.ext ((Ext.refl _).drew)) (((unhide H1).fin (.int .i64 0) (.int .i64 0)).2.drew))
        clear HS
        go_wp2
        obtain ⟨s0, s1⟩ := (unhide HF).1.two
        exact bodyPost_ret (v := .tuple #[.agg #[.int .i64 (noT).1, .int .i64 (noT).2], .int .i64 4]) (by simp [results, Try.results18, go_sem, s0, s1, noT]) rfl ⟨rfl, (unhide HF).2⟩

set_option maxHeartbeats 4000000 in
set_option maxRecDepth 100000 in
theorem refCond_any (c a d : Ty) (w : World) :
    Calls Try.prog 22 #[.agg #[.int .i64 (c).1, .int .i64 (c).2], .agg #[.int .i64 (a).1, .int .i64 (a).2], .agg #[.int .i64 (d).1, .int .i64 (d).2]] w fun e w' => e = .returned (.tuple #[.agg #[.int .i64 ((conP c a d).1).1, .int .i64 ((conP c a d).1).2], .int .i64 (conP c a d).2]) ∧ Ext w w' := by
  have H0 := hide (reg3 w c a d)
  have HM := hide refMay_any
  have HNU := hide refNumber_any
  have HVA := hide refValue_any
  have HTR := hide refTruth_any
  obtain ⟨U, hU⟩ : ∃ U, conP c a d = U := ⟨_, rfl⟩
  rw [hU]
  unfold conP at hU
  go_enter Try.func22, Try.ntmps22
  have HMx := hide (unhide HM c)
  cases hm0 : mayP c with
  | false =>
    rw [hm0] at HMx
    rw [if_pos (by simp [hm0])] at hU
    subst hU
    go_wp2_with fail
    refine (unhide HMx _).mono ?_
    rintro e wm ⟨rfl, hxm⟩
    have HS := Reg.ext hxm (unhide H0)
    clear hxm HMx 
    obtain ⟨c0, k0⟩ := HS.at (w.heap.size) (c) (by simp)
    obtain ⟨c1, k1⟩ := HS.at (w.heap.size + 1) (a) (by simp)
    obtain ⟨c2, k2⟩ := HS.at (w.heap.size + 1 + 1) (d) (by simp)
    obtain ⟨x, y, r0, r1, z0, z1⟩ := HS.res
    have HF := hide (HS.fin (.int .i64 0) (.int .i64 0))
    clear HS
    go_wp2
    obtain ⟨s0, s1⟩ := (unhide HF).1.two
    exact bodyPost_ret (v := .tuple #[.agg #[.int .i64 (noT).1, .int .i64 (noT).2], .int .i64 2]) (by simp [results, Try.results22, go_sem, s0, s1, noT]) rfl ⟨rfl, (unhide HF).2⟩
  | true =>
    rw [hm0] at HMx
    go_wp2_with fail
    refine (unhide HMx _).mono ?_
    rintro e wm0 ⟨rfl, hxm⟩
    have H1 := hide (Reg.ext hxm (unhide H0))
    clear hxm HMx H0
    obtain ⟨c0, k0⟩ := (unhide H1).at (w.heap.size) (c) (by simp)
    obtain ⟨c1, k1⟩ := (unhide H1).at (w.heap.size + 1) (a) (by simp)
    obtain ⟨c2, k2⟩ := (unhide H1).at (w.heap.size + 1 + 1) (d) (by simp)
    have HMx := hide (unhide HM a)
    cases hm1 : mayP a with
    | false =>
      rw [hm1] at HMx
      rw [if_pos (by simp [hm0, hm1])] at hU
      subst hU
      go_wp2_with fail
      refine (unhide HMx _).mono ?_
      rintro e wm ⟨rfl, hxm⟩
      have HS := Reg.ext hxm (unhide H1)
      clear hxm HMx c0 k0 c1 k1 c2 k2
      obtain ⟨c0, k0⟩ := HS.at (w.heap.size) (c) (by simp)
      obtain ⟨c1, k1⟩ := HS.at (w.heap.size + 1) (a) (by simp)
      obtain ⟨c2, k2⟩ := HS.at (w.heap.size + 1 + 1) (d) (by simp)
      obtain ⟨x, y, r0, r1, z0, z1⟩ := HS.res
      have HF := hide (HS.fin (.int .i64 0) (.int .i64 0))
      clear HS
      go_wp2
      obtain ⟨s0, s1⟩ := (unhide HF).1.two
      exact bodyPost_ret (v := .tuple #[.agg #[.int .i64 (noT).1, .int .i64 (noT).2], .int .i64 2]) (by simp [results, Try.results22, go_sem, s0, s1, noT]) rfl ⟨rfl, (unhide HF).2⟩
    | true =>
      rw [hm1] at HMx
      go_wp2_with fail
      refine (unhide HMx _).mono ?_
      rintro e wm1 ⟨rfl, hxm⟩
      have H2 := hide (Reg.ext hxm (unhide H1))
      clear hxm HMx H1
      clear c0 k0 c1 k1 c2 k2
      obtain ⟨c0, k0⟩ := (unhide H2).at (w.heap.size) (c) (by simp)
      obtain ⟨c1, k1⟩ := (unhide H2).at (w.heap.size + 1) (a) (by simp)
      obtain ⟨c2, k2⟩ := (unhide H2).at (w.heap.size + 1 + 1) (d) (by simp)
      have HMx := hide (unhide HM d)
      cases hm2 : mayP d with
      | false =>
        rw [hm2] at HMx
        rw [if_pos (by simp [hm0, hm1, hm2])] at hU
        subst hU
        go_wp2_with fail
        refine (unhide HMx _).mono ?_
        rintro e wm ⟨rfl, hxm⟩
        have HS := Reg.ext hxm (unhide H2)
        clear hxm HMx c0 k0 c1 k1 c2 k2
        obtain ⟨c0, k0⟩ := HS.at (w.heap.size) (c) (by simp)
        obtain ⟨c1, k1⟩ := HS.at (w.heap.size + 1) (a) (by simp)
        obtain ⟨c2, k2⟩ := HS.at (w.heap.size + 1 + 1) (d) (by simp)
        obtain ⟨x, y, r0, r1, z0, z1⟩ := HS.res
        have HF := hide (HS.fin (.int .i64 0) (.int .i64 0))
        clear HS
        go_wp2
        obtain ⟨s0, s1⟩ := (unhide HF).1.two
        exact bodyPost_ret (v := .tuple #[.agg #[.int .i64 (noT).1, .int .i64 (noT).2], .int .i64 2]) (by simp [results, Try.results22, go_sem, s0, s1, noT]) rfl ⟨rfl, (unhide HF).2⟩
      | true =>
        rw [hm2] at HMx
        go_wp2_with fail
        refine (unhide HMx _).mono ?_
        rintro e wm2 ⟨rfl, hxm⟩
        have H3 := hide (Reg.ext hxm (unhide H2))
        clear hxm HMx H2
        clear c0 k0 c1 k1 c2 k2
        rw [if_neg (by simp [hm0, hm1, hm2])] at hU
        obtain ⟨c0, k0⟩ := (unhide H3).at (w.heap.size) (c) (by simp)
        obtain ⟨c1, k1⟩ := (unhide H3).at (w.heap.size + 1) (a) (by simp)
        obtain ⟨c2, k2⟩ := (unhide H3).at (w.heap.size + 1 + 1) (d) (by simp)
        clear c0 k0 c1 k1 c2 k2
        cases hq : eqT c truT with
        | true =>
          rw [hq] at hU
          have eq := eqT_iff.1 hq
          subst eq
          have q1 : ((truT).1 == (truT).1) = true := by simp
          have q2 : ((truT).2 == (truT).2) = true := by simp
          have HVx := unhide HVA a
          cases hv : valuP a with
          | false =>
            rw [hv, Bool.and_false] at hU
            rw [hv] at HVx
            subst hU
            go_upto_region 3 with fail
            refine wp_region_noPanic ?_
            refine wp_region_held_drew (S := fun wx => Reg w [(w.heap.size, truT), (w.heap.size + 1, a), (w.heap.size + 1 + 1, d)] (w.heap.size + 1 + 1 + 1) wx) (by kernel_rfl) ((unhide H3).drew) (fun HS => ?_)
            refine wpAnyH_take (i := 0) (oi := { dst := some 22, op := Op.load _ (Operand.tmp 3), type := _, pos := _, after := _, guard := none }) (v := .agg #[.int .i64 (truT).1, .int .i64 (truT).2]) rfl (by kernel_rfl) (by kernel_rfl) (by kernel_rfl) (fun _ _ _ h => h) (Or.inl ⟨by rfl, fun wx hx => by obtain ⟨c0, c1⟩ := hx.at (w.heap.size) (truT) (by simp); go_simp⟩) HS ?_
            simp only [Act.put, List.setIfInBounds_toArray, List.set_cons_zero, List.set_cons_succ]
            refine wpAnyH_ready (rs := [1]) (by kernel_rfl) (by simp) (AllReadyH.cons (o := { dst := some 23, op := Op.call { callee := Callee.value (Operand.func _), args := #[], argTypes := _ }, type := _, pos := _, after := _, guard := none }) rfl (fun KK hK => ?_) AllReadyH.nil)
            go_simp
            refine (unhide HTR _).mono ?_
            rintro e ws ⟨rfl, hxs⟩
            have HS2 := Reg.ext hxs HS
            clear hxs HS
            have HS := HS2
            clear HS2
            refine hK.out _ _ HS (fun _ => ?_)
            clear hK KK
            try simp only [Act.put, List.setIfInBounds_toArray, List.set_cons_zero, List.set_cons_succ]
            refine wpAnyH_take (i := 2) (oi := { dst := some 24, op := Op.binOp BinOp.eql _ (Operand.tmp 22) (Operand.tmp 23) _, type := _, pos := _, after := _, guard := none }) (v := .bool (true)) rfl (by kernel_rfl) (by kernel_rfl) (by kernel_rfl) (fun _ _ _ h => h) (Or.inl ⟨by rfl, fun wx hx => by go_simp⟩) HS ?_
            simp only [Act.put, List.setIfInBounds_toArray, List.set_cons_zero, List.set_cons_succ]
            refine wpAnyH_take (i := 3) (oi := { dst := some 25, op := Op.move (Operand.tmp 24), type := _, pos := _, after := _, guard := none }) (v := .bool (true)) rfl (by kernel_rfl) (by kernel_rfl) (by kernel_rfl) (fun _ _ _ h => h) (Or.inl ⟨by rfl, fun wx hx => by go_simp⟩) HS ?_
            simp only [Act.put, List.setIfInBounds_toArray, List.set_cons_zero, List.set_cons_succ]
            refine wpAnyH_take (i := 4) (oi := { dst := some 26, op := Op.load _ (Operand.tmp 4), type := _, pos := _, after := _, guard := some (3, true) }) (v := .agg #[.int .i64 (a).1, .int .i64 (a).2]) rfl (by kernel_rfl) (by kernel_rfl) (by kernel_rfl) (fun _ _ _ h => h) (Or.inl ⟨by rfl, fun wx hx => by obtain ⟨c0, c1⟩ := hx.at (w.heap.size + 1) (a) (by simp); go_simp⟩) HS ?_
            simp only [Act.put, List.setIfInBounds_toArray, List.set_cons_zero, List.set_cons_succ]
            refine wpAnyH_ready (rs := [5]) (by kernel_rfl) (by simp) (AllReadyH.cons (o := { dst := some 27, op := Op.call { callee := Callee.value (Operand.func _), args := #[Operand.tmp 26], argTypes := _ }, type := _, pos := _, after := _, guard := some (3, true) }) rfl (fun KK hK => ?_) AllReadyH.nil)
            go_simp
            refine (HVx _).mono ?_
            rintro e ws ⟨rfl, hxs⟩
            have HS2 := Reg.ext hxs HS
            clear hxs HS
            have HS := HS2
            clear HS2
            refine hK.out _ _ HS (fun _ => ?_)
            clear hK KK
            try simp only [Act.put, List.setIfInBounds_toArray, List.set_cons_zero, List.set_cons_succ]
            refine wpAnyH_take (i := 6) (oi := { dst := some 28, op := Op.pick (Operand.tmp 25) (Operand.tmp 27) (Operand.const (Value.bool false)), type := _, pos := _, after := _, guard := none }) (v := .bool (false)) rfl (by kernel_rfl) (by kernel_rfl) (by kernel_rfl) (fun _ _ _ h => h) (Or.inl ⟨by rfl, fun wx hx => by go_simp⟩) HS ?_
            simp only [Act.put, List.setIfInBounds_toArray, List.set_cons_zero, List.set_cons_succ]
            refine wpAnyH_take (i := 7) (oi := { dst := some 29, op := Op.move (Operand.tmp 28), type := _, pos := _, after := _, guard := none }) (v := .bool (false)) rfl (by kernel_rfl) (by kernel_rfl) (by kernel_rfl) (fun _ _ _ h => h) (Or.inl ⟨by rfl, fun wx hx => by go_simp⟩) HS ?_
            simp only [Act.put, List.setIfInBounds_toArray, List.set_cons_zero, List.set_cons_succ]
            refine wpAnyH_take (i := 8) (oi := { dst := some 30, op := Op.load _ (Operand.tmp 4), type := _, pos := _, after := _, guard := some (7, true) }) (v := undef) rfl (by kernel_rfl) (by kernel_rfl) (by kernel_rfl) (fun _ _ _ h => h) (Or.inr ⟨by rfl, rfl⟩) HS ?_
            simp only [Act.put, List.setIfInBounds_toArray, List.set_cons_zero, List.set_cons_succ]
            refine wpAnyH_take (i := 9) (oi := { dst := some 31, op := Op.load _ (Operand.tmp 5), type := _, pos := _, after := _, guard := some (7, true) }) (v := undef) rfl (by kernel_rfl) (by kernel_rfl) (by kernel_rfl) (fun _ _ _ h => h) (Or.inr ⟨by rfl, rfl⟩) HS ?_
            simp only [Act.put, List.setIfInBounds_toArray, List.set_cons_zero, List.set_cons_succ]
            refine wpAnyH_take (i := 10) (oi := { dst := some 32, op := Op.binOp BinOp.eql _ (Operand.tmp 30) (Operand.tmp 31) _, type := _, pos := _, after := _, guard := some (7, true) }) (v := undef) rfl (by kernel_rfl) (by kernel_rfl) (by kernel_rfl) (fun _ _ _ h => h) (Or.inr ⟨by rfl, rfl⟩) HS ?_
            simp only [Act.put, List.setIfInBounds_toArray, List.set_cons_zero, List.set_cons_succ]
            refine wpAnyH_take (i := 11) (oi := { dst := some 33, op := Op.pick (Operand.tmp 29) (Operand.tmp 32) (Operand.const (Value.bool false)), type := _, pos := _, after := _, guard := none }) (v := .bool (false)) rfl (by kernel_rfl) (by kernel_rfl) (by kernel_rfl) (fun _ _ _ h => h) (Or.inl ⟨by rfl, fun wx hx => by go_simp⟩) HS ?_
            simp only [Act.put, List.setIfInBounds_toArray, List.set_cons_zero, List.set_cons_succ]
            refine wpAnyH_done (by kernel_rfl) ?_ _
            refine NoPanic.normal ?_
            obtain ⟨c0, k0⟩ := HS.at (w.heap.size) (truT) (by simp)
            obtain ⟨c1, k1⟩ := HS.at (w.heap.size + 1) (a) (by simp)
            obtain ⟨c2, k2⟩ := HS.at (w.heap.size + 1 + 1) (d) (by simp)
            obtain ⟨x, y, r0, r1, z0, z1⟩ := HS.res
            have HF := hide (HS.fin (.int .i64 0) (.int .i64 0))
            clear HS
            go_wp2
            obtain ⟨s0, s1⟩ := (unhide HF).1.two
            exact bodyPost_ret (v := .tuple #[.agg #[.int .i64 (noT).1, .int .i64 (noT).2], .int .i64 230]) (by simp [results, Try.results22, go_sem, s0, s1, noT]) rfl ⟨rfl, (unhide HF).2⟩
          | true =>
            rw [hv, Bool.and_true, Bool.true_and] at hU
            rw [hv] at HVx
            cases hp : eqT a d with
            | true =>
              rw [hp] at hU
              have ep := eqT_iff.1 hp
              subst ep
              have p1 : ((a).1 == (a).1) = true := by simp
              have p2 : ((a).2 == (a).2) = true := by simp
              subst hU
              go_upto_region 3 with fail
              refine wp_region_noPanic ?_
              refine wp_region_held_drew (S := fun wx => Reg w [(w.heap.size, truT), (w.heap.size + 1, a), (w.heap.size + 1 + 1, a)] (w.heap.size + 1 + 1 + 1) wx) (by kernel_rfl) ((unhide H3).drew) (fun HS => ?_)
              refine wpAnyH_take (i := 0) (oi := { dst := some 22, op := Op.load _ (Operand.tmp 3), type := _, pos := _, after := _, guard := none }) (v := .agg #[.int .i64 (truT).1, .int .i64 (truT).2]) rfl (by kernel_rfl) (by kernel_rfl) (by kernel_rfl) (fun _ _ _ h => h) (Or.inl ⟨by rfl, fun wx hx => by obtain ⟨c0, c1⟩ := hx.at (w.heap.size) (truT) (by simp); go_simp⟩) HS ?_
              simp only [Act.put, List.setIfInBounds_toArray, List.set_cons_zero, List.set_cons_succ]
              refine wpAnyH_ready (rs := [1]) (by kernel_rfl) (by simp) (AllReadyH.cons (o := { dst := some 23, op := Op.call { callee := Callee.value (Operand.func _), args := #[], argTypes := _ }, type := _, pos := _, after := _, guard := none }) rfl (fun KK hK => ?_) AllReadyH.nil)
              go_simp
              refine (unhide HTR _).mono ?_
              rintro e ws ⟨rfl, hxs⟩
              have HS2 := Reg.ext hxs HS
              clear hxs HS
              have HS := HS2
              clear HS2
              refine hK.out _ _ HS (fun _ => ?_)
              clear hK KK
              try simp only [Act.put, List.setIfInBounds_toArray, List.set_cons_zero, List.set_cons_succ]
              refine wpAnyH_take (i := 2) (oi := { dst := some 24, op := Op.binOp BinOp.eql _ (Operand.tmp 22) (Operand.tmp 23) _, type := _, pos := _, after := _, guard := none }) (v := .bool (true)) rfl (by kernel_rfl) (by kernel_rfl) (by kernel_rfl) (fun _ _ _ h => h) (Or.inl ⟨by rfl, fun wx hx => by go_simp⟩) HS ?_
              simp only [Act.put, List.setIfInBounds_toArray, List.set_cons_zero, List.set_cons_succ]
              refine wpAnyH_take (i := 3) (oi := { dst := some 25, op := Op.move (Operand.tmp 24), type := _, pos := _, after := _, guard := none }) (v := .bool (true)) rfl (by kernel_rfl) (by kernel_rfl) (by kernel_rfl) (fun _ _ _ h => h) (Or.inl ⟨by rfl, fun wx hx => by go_simp⟩) HS ?_
              simp only [Act.put, List.setIfInBounds_toArray, List.set_cons_zero, List.set_cons_succ]
              refine wpAnyH_take (i := 4) (oi := { dst := some 26, op := Op.load _ (Operand.tmp 4), type := _, pos := _, after := _, guard := some (3, true) }) (v := .agg #[.int .i64 (a).1, .int .i64 (a).2]) rfl (by kernel_rfl) (by kernel_rfl) (by kernel_rfl) (fun _ _ _ h => h) (Or.inl ⟨by rfl, fun wx hx => by obtain ⟨c0, c1⟩ := hx.at (w.heap.size + 1) (a) (by simp); go_simp⟩) HS ?_
              simp only [Act.put, List.setIfInBounds_toArray, List.set_cons_zero, List.set_cons_succ]
              refine wpAnyH_ready (rs := [5]) (by kernel_rfl) (by simp) (AllReadyH.cons (o := { dst := some 27, op := Op.call { callee := Callee.value (Operand.func _), args := #[Operand.tmp 26], argTypes := _ }, type := _, pos := _, after := _, guard := some (3, true) }) rfl (fun KK hK => ?_) AllReadyH.nil)
              go_simp
              refine (HVx _).mono ?_
              rintro e ws ⟨rfl, hxs⟩
              have HS2 := Reg.ext hxs HS
              clear hxs HS
              have HS := HS2
              clear HS2
              refine hK.out _ _ HS (fun _ => ?_)
              clear hK KK
              try simp only [Act.put, List.setIfInBounds_toArray, List.set_cons_zero, List.set_cons_succ]
              refine wpAnyH_take (i := 6) (oi := { dst := some 28, op := Op.pick (Operand.tmp 25) (Operand.tmp 27) (Operand.const (Value.bool false)), type := _, pos := _, after := _, guard := none }) (v := .bool (true)) rfl (by kernel_rfl) (by kernel_rfl) (by kernel_rfl) (fun _ _ _ h => h) (Or.inl ⟨by rfl, fun wx hx => by go_simp⟩) HS ?_
              simp only [Act.put, List.setIfInBounds_toArray, List.set_cons_zero, List.set_cons_succ]
              refine wpAnyH_take (i := 7) (oi := { dst := some 29, op := Op.move (Operand.tmp 28), type := _, pos := _, after := _, guard := none }) (v := .bool (true)) rfl (by kernel_rfl) (by kernel_rfl) (by kernel_rfl) (fun _ _ _ h => h) (Or.inl ⟨by rfl, fun wx hx => by go_simp⟩) HS ?_
              simp only [Act.put, List.setIfInBounds_toArray, List.set_cons_zero, List.set_cons_succ]
              refine wpAnyH_take (i := 8) (oi := { dst := some 30, op := Op.load _ (Operand.tmp 4), type := _, pos := _, after := _, guard := some (7, true) }) (v := .agg #[.int .i64 (a).1, .int .i64 (a).2]) rfl (by kernel_rfl) (by kernel_rfl) (by kernel_rfl) (fun _ _ _ h => h) (Or.inl ⟨by rfl, fun wx hx => by obtain ⟨c0, c1⟩ := hx.at (w.heap.size + 1) (a) (by simp); go_simp⟩) HS ?_
              simp only [Act.put, List.setIfInBounds_toArray, List.set_cons_zero, List.set_cons_succ]
              refine wpAnyH_take (i := 9) (oi := { dst := some 31, op := Op.load _ (Operand.tmp 5), type := _, pos := _, after := _, guard := some (7, true) }) (v := .agg #[.int .i64 (a).1, .int .i64 (a).2]) rfl (by kernel_rfl) (by kernel_rfl) (by kernel_rfl) (fun _ _ _ h => h) (Or.inl ⟨by rfl, fun wx hx => by obtain ⟨c0, c1⟩ := hx.at (w.heap.size + 1 + 1) (a) (by simp); go_simp⟩) HS ?_
              simp only [Act.put, List.setIfInBounds_toArray, List.set_cons_zero, List.set_cons_succ]
              refine wpAnyH_take (i := 10) (oi := { dst := some 32, op := Op.binOp BinOp.eql _ (Operand.tmp 30) (Operand.tmp 31) _, type := _, pos := _, after := _, guard := some (7, true) }) (v := .bool (true)) rfl (by kernel_rfl) (by kernel_rfl) (by kernel_rfl) (fun _ _ _ h => h) (Or.inl ⟨by rfl, fun wx hx => by go_simp⟩) HS ?_
              simp only [Act.put, List.setIfInBounds_toArray, List.set_cons_zero, List.set_cons_succ]
              refine wpAnyH_take (i := 11) (oi := { dst := some 33, op := Op.pick (Operand.tmp 29) (Operand.tmp 32) (Operand.const (Value.bool false)), type := _, pos := _, after := _, guard := none }) (v := .bool (true)) rfl (by kernel_rfl) (by kernel_rfl) (by kernel_rfl) (fun _ _ _ h => h) (Or.inl ⟨by rfl, fun wx hx => by go_simp⟩) HS ?_
              simp only [Act.put, List.setIfInBounds_toArray, List.set_cons_zero, List.set_cons_succ]
              refine wpAnyH_done (by kernel_rfl) ?_ _
              refine NoPanic.normal ?_
              obtain ⟨c0, k0⟩ := HS.at (w.heap.size) (truT) (by simp)
              obtain ⟨c1, k1⟩ := HS.at (w.heap.size + 1) (a) (by simp)
              obtain ⟨c2, k2⟩ := HS.at (w.heap.size + 1 + 1) (a) (by simp)
              obtain ⟨x, y, r0, r1, z0, z1⟩ := HS.res
              have HF := hide (HS.fin (.int .i64 (a).1) (.int .i64 (a).2))
              clear HS
              go_wp2
              obtain ⟨s0, s1⟩ := (unhide HF).1.two
              exact bodyPost_ret (v := .tuple #[.agg #[.int .i64 (a).1, .int .i64 (a).2], .int .i64 0]) (by simp [results, Try.results22, go_sem, s0, s1, noT]) rfl ⟨rfl, (unhide HF).2⟩
            | false =>
              rw [hp] at hU
              rcases eqT_cases hp with p1 | ⟨p1, p2⟩ <;>
              · clear hp
                subst hU
                go_upto_region 3 with fail
                refine wp_region_noPanic ?_
                refine wp_region_held_drew (S := fun wx => Reg w [(w.heap.size, truT), (w.heap.size + 1, a), (w.heap.size + 1 + 1, d)] (w.heap.size + 1 + 1 + 1) wx) (by kernel_rfl) ((unhide H3).drew) (fun HS => ?_)
                refine wpAnyH_take (i := 0) (oi := { dst := some 22, op := Op.load _ (Operand.tmp 3), type := _, pos := _, after := _, guard := none }) (v := .agg #[.int .i64 (truT).1, .int .i64 (truT).2]) rfl (by kernel_rfl) (by kernel_rfl) (by kernel_rfl) (fun _ _ _ h => h) (Or.inl ⟨by rfl, fun wx hx => by obtain ⟨c0, c1⟩ := hx.at (w.heap.size) (truT) (by simp); go_simp⟩) HS ?_
                simp only [Act.put, List.setIfInBounds_toArray, List.set_cons_zero, List.set_cons_succ]
                refine wpAnyH_ready (rs := [1]) (by kernel_rfl) (by simp) (AllReadyH.cons (o := { dst := some 23, op := Op.call { callee := Callee.value (Operand.func _), args := #[], argTypes := _ }, type := _, pos := _, after := _, guard := none }) rfl (fun KK hK => ?_) AllReadyH.nil)
                go_simp
                refine (unhide HTR _).mono ?_
                rintro e ws ⟨rfl, hxs⟩
                have HS2 := Reg.ext hxs HS
                clear hxs HS
                have HS := HS2
                clear HS2
                refine hK.out _ _ HS (fun _ => ?_)
                clear hK KK
                try simp only [Act.put, List.setIfInBounds_toArray, List.set_cons_zero, List.set_cons_succ]
                refine wpAnyH_take (i := 2) (oi := { dst := some 24, op := Op.binOp BinOp.eql _ (Operand.tmp 22) (Operand.tmp 23) _, type := _, pos := _, after := _, guard := none }) (v := .bool (true)) rfl (by kernel_rfl) (by kernel_rfl) (by kernel_rfl) (fun _ _ _ h => h) (Or.inl ⟨by rfl, fun wx hx => by go_simp⟩) HS ?_
                simp only [Act.put, List.setIfInBounds_toArray, List.set_cons_zero, List.set_cons_succ]
                refine wpAnyH_take (i := 3) (oi := { dst := some 25, op := Op.move (Operand.tmp 24), type := _, pos := _, after := _, guard := none }) (v := .bool (true)) rfl (by kernel_rfl) (by kernel_rfl) (by kernel_rfl) (fun _ _ _ h => h) (Or.inl ⟨by rfl, fun wx hx => by go_simp⟩) HS ?_
                simp only [Act.put, List.setIfInBounds_toArray, List.set_cons_zero, List.set_cons_succ]
                refine wpAnyH_take (i := 4) (oi := { dst := some 26, op := Op.load _ (Operand.tmp 4), type := _, pos := _, after := _, guard := some (3, true) }) (v := .agg #[.int .i64 (a).1, .int .i64 (a).2]) rfl (by kernel_rfl) (by kernel_rfl) (by kernel_rfl) (fun _ _ _ h => h) (Or.inl ⟨by rfl, fun wx hx => by obtain ⟨c0, c1⟩ := hx.at (w.heap.size + 1) (a) (by simp); go_simp⟩) HS ?_
                simp only [Act.put, List.setIfInBounds_toArray, List.set_cons_zero, List.set_cons_succ]
                refine wpAnyH_ready (rs := [5]) (by kernel_rfl) (by simp) (AllReadyH.cons (o := { dst := some 27, op := Op.call { callee := Callee.value (Operand.func _), args := #[Operand.tmp 26], argTypes := _ }, type := _, pos := _, after := _, guard := some (3, true) }) rfl (fun KK hK => ?_) AllReadyH.nil)
                go_simp
                refine (HVx _).mono ?_
                rintro e ws ⟨rfl, hxs⟩
                have HS2 := Reg.ext hxs HS
                clear hxs HS
                have HS := HS2
                clear HS2
                refine hK.out _ _ HS (fun _ => ?_)
                clear hK KK
                try simp only [Act.put, List.setIfInBounds_toArray, List.set_cons_zero, List.set_cons_succ]
                refine wpAnyH_take (i := 6) (oi := { dst := some 28, op := Op.pick (Operand.tmp 25) (Operand.tmp 27) (Operand.const (Value.bool false)), type := _, pos := _, after := _, guard := none }) (v := .bool (true)) rfl (by kernel_rfl) (by kernel_rfl) (by kernel_rfl) (fun _ _ _ h => h) (Or.inl ⟨by rfl, fun wx hx => by go_simp⟩) HS ?_
                simp only [Act.put, List.setIfInBounds_toArray, List.set_cons_zero, List.set_cons_succ]
                refine wpAnyH_take (i := 7) (oi := { dst := some 29, op := Op.move (Operand.tmp 28), type := _, pos := _, after := _, guard := none }) (v := .bool (true)) rfl (by kernel_rfl) (by kernel_rfl) (by kernel_rfl) (fun _ _ _ h => h) (Or.inl ⟨by rfl, fun wx hx => by go_simp⟩) HS ?_
                simp only [Act.put, List.setIfInBounds_toArray, List.set_cons_zero, List.set_cons_succ]
                refine wpAnyH_take (i := 8) (oi := { dst := some 30, op := Op.load _ (Operand.tmp 4), type := _, pos := _, after := _, guard := some (7, true) }) (v := .agg #[.int .i64 (a).1, .int .i64 (a).2]) rfl (by kernel_rfl) (by kernel_rfl) (by kernel_rfl) (fun _ _ _ h => h) (Or.inl ⟨by rfl, fun wx hx => by obtain ⟨c0, c1⟩ := hx.at (w.heap.size + 1) (a) (by simp); go_simp⟩) HS ?_
                simp only [Act.put, List.setIfInBounds_toArray, List.set_cons_zero, List.set_cons_succ]
                refine wpAnyH_take (i := 9) (oi := { dst := some 31, op := Op.load _ (Operand.tmp 5), type := _, pos := _, after := _, guard := some (7, true) }) (v := .agg #[.int .i64 (d).1, .int .i64 (d).2]) rfl (by kernel_rfl) (by kernel_rfl) (by kernel_rfl) (fun _ _ _ h => h) (Or.inl ⟨by rfl, fun wx hx => by obtain ⟨c0, c1⟩ := hx.at (w.heap.size + 1 + 1) (d) (by simp); go_simp⟩) HS ?_
                simp only [Act.put, List.setIfInBounds_toArray, List.set_cons_zero, List.set_cons_succ]
                refine wpAnyH_take (i := 10) (oi := { dst := some 32, op := Op.binOp BinOp.eql _ (Operand.tmp 30) (Operand.tmp 31) _, type := _, pos := _, after := _, guard := some (7, true) }) (v := .bool (false)) rfl (by kernel_rfl) (by kernel_rfl) (by kernel_rfl) (fun _ _ _ h => h) (Or.inl ⟨by rfl, fun wx hx => by go_simp⟩) HS ?_
                simp only [Act.put, List.setIfInBounds_toArray, List.set_cons_zero, List.set_cons_succ]
                refine wpAnyH_take (i := 11) (oi := { dst := some 33, op := Op.pick (Operand.tmp 29) (Operand.tmp 32) (Operand.const (Value.bool false)), type := _, pos := _, after := _, guard := none }) (v := .bool (false)) rfl (by kernel_rfl) (by kernel_rfl) (by kernel_rfl) (fun _ _ _ h => h) (Or.inl ⟨by rfl, fun wx hx => by go_simp⟩) HS ?_
                simp only [Act.put, List.setIfInBounds_toArray, List.set_cons_zero, List.set_cons_succ]
                refine wpAnyH_done (by kernel_rfl) ?_ _
                refine NoPanic.normal ?_
                obtain ⟨c0, k0⟩ := HS.at (w.heap.size) (truT) (by simp)
                obtain ⟨c1, k1⟩ := HS.at (w.heap.size + 1) (a) (by simp)
                obtain ⟨c2, k2⟩ := HS.at (w.heap.size + 1 + 1) (d) (by simp)
                obtain ⟨x, y, r0, r1, z0, z1⟩ := HS.res
                have HF := hide (HS.fin (.int .i64 0) (.int .i64 0))
                clear HS
                go_wp2
                obtain ⟨s0, s1⟩ := (unhide HF).1.two
                exact bodyPost_ret (v := .tuple #[.agg #[.int .i64 (noT).1, .int .i64 (noT).2], .int .i64 230]) (by simp [results, Try.results22, go_sem, s0, s1, noT]) rfl ⟨rfl, (unhide HF).2⟩
        | false =>
          rw [hq] at hU
          rcases eqT_cases hq with q1 | ⟨q1, q2⟩ <;>
          · clear hq
            rw [Bool.false_and, Bool.false_and] at hU
            subst hU
            go_upto_region 3 with fail
            refine wp_region_noPanic ?_
            refine wp_region_held_drew (S := fun wx => Reg w [(w.heap.size, c), (w.heap.size + 1, a), (w.heap.size + 1 + 1, d)] (w.heap.size + 1 + 1 + 1) wx) (by kernel_rfl) ((unhide H3).drew) (fun HS => ?_)
            refine wpAnyH_take (i := 0) (oi := { dst := some 22, op := Op.load _ (Operand.tmp 3), type := _, pos := _, after := _, guard := none }) (v := .agg #[.int .i64 (c).1, .int .i64 (c).2]) rfl (by kernel_rfl) (by kernel_rfl) (by kernel_rfl) (fun _ _ _ h => h) (Or.inl ⟨by rfl, fun wx hx => by obtain ⟨c0, c1⟩ := hx.at (w.heap.size) (c) (by simp); go_simp⟩) HS ?_
            simp only [Act.put, List.setIfInBounds_toArray, List.set_cons_zero, List.set_cons_succ]
            refine wpAnyH_ready (rs := [1]) (by kernel_rfl) (by simp) (AllReadyH.cons (o := { dst := some 23, op := Op.call { callee := Callee.value (Operand.func _), args := #[], argTypes := _ }, type := _, pos := _, after := _, guard := none }) rfl (fun KK hK => ?_) AllReadyH.nil)
            go_simp
            refine (unhide HTR _).mono ?_
            rintro e ws ⟨rfl, hxs⟩
            have HS2 := Reg.ext hxs HS
            clear hxs HS
            have HS := HS2
            clear HS2
            refine hK.out _ _ HS (fun _ => ?_)
            clear hK KK
            try simp only [Act.put, List.setIfInBounds_toArray, List.set_cons_zero, List.set_cons_succ]
            refine wpAnyH_take (i := 2) (oi := { dst := some 24, op := Op.binOp BinOp.eql _ (Operand.tmp 22) (Operand.tmp 23) _, type := _, pos := _, after := _, guard := none }) (v := .bool (false)) rfl (by kernel_rfl) (by kernel_rfl) (by kernel_rfl) (fun _ _ _ h => h) (Or.inl ⟨by rfl, fun wx hx => by go_simp⟩) HS ?_
            simp only [Act.put, List.setIfInBounds_toArray, List.set_cons_zero, List.set_cons_succ]
            refine wpAnyH_take (i := 3) (oi := { dst := some 25, op := Op.move (Operand.tmp 24), type := _, pos := _, after := _, guard := none }) (v := .bool (false)) rfl (by kernel_rfl) (by kernel_rfl) (by kernel_rfl) (fun _ _ _ h => h) (Or.inl ⟨by rfl, fun wx hx => by go_simp⟩) HS ?_
            simp only [Act.put, List.setIfInBounds_toArray, List.set_cons_zero, List.set_cons_succ]
            refine wpAnyH_take (i := 4) (oi := { dst := some 26, op := Op.load _ (Operand.tmp 4), type := _, pos := _, after := _, guard := some (3, true) }) (v := undef) rfl (by kernel_rfl) (by kernel_rfl) (by kernel_rfl) (fun _ _ _ h => h) (Or.inr ⟨by rfl, rfl⟩) HS ?_
            simp only [Act.put, List.setIfInBounds_toArray, List.set_cons_zero, List.set_cons_succ]
            refine wpAnyH_take (i := 5) (oi := { dst := some 27, op := Op.call { callee := Callee.value (Operand.func _), args := #[Operand.tmp 26], argTypes := _ }, type := _, pos := _, after := _, guard := some (3, true) }) (v := undef) rfl (by kernel_rfl) (by kernel_rfl) (by kernel_rfl) (fun _ _ _ h => h) (Or.inr ⟨by rfl, rfl⟩) HS ?_
            simp only [Act.put, List.setIfInBounds_toArray, List.set_cons_zero, List.set_cons_succ]
            refine wpAnyH_take (i := 6) (oi := { dst := some 28, op := Op.pick (Operand.tmp 25) (Operand.tmp 27) (Operand.const (Value.bool false)), type := _, pos := _, after := _, guard := none }) (v := .bool (false)) rfl (by kernel_rfl) (by kernel_rfl) (by kernel_rfl) (fun _ _ _ h => h) (Or.inl ⟨by rfl, fun wx hx => by go_simp⟩) HS ?_
            simp only [Act.put, List.setIfInBounds_toArray, List.set_cons_zero, List.set_cons_succ]
            refine wpAnyH_take (i := 7) (oi := { dst := some 29, op := Op.move (Operand.tmp 28), type := _, pos := _, after := _, guard := none }) (v := .bool (false)) rfl (by kernel_rfl) (by kernel_rfl) (by kernel_rfl) (fun _ _ _ h => h) (Or.inl ⟨by rfl, fun wx hx => by go_simp⟩) HS ?_
            simp only [Act.put, List.setIfInBounds_toArray, List.set_cons_zero, List.set_cons_succ]
            refine wpAnyH_take (i := 8) (oi := { dst := some 30, op := Op.load _ (Operand.tmp 4), type := _, pos := _, after := _, guard := some (7, true) }) (v := undef) rfl (by kernel_rfl) (by kernel_rfl) (by kernel_rfl) (fun _ _ _ h => h) (Or.inr ⟨by rfl, rfl⟩) HS ?_
            simp only [Act.put, List.setIfInBounds_toArray, List.set_cons_zero, List.set_cons_succ]
            refine wpAnyH_take (i := 9) (oi := { dst := some 31, op := Op.load _ (Operand.tmp 5), type := _, pos := _, after := _, guard := some (7, true) }) (v := undef) rfl (by kernel_rfl) (by kernel_rfl) (by kernel_rfl) (fun _ _ _ h => h) (Or.inr ⟨by rfl, rfl⟩) HS ?_
            simp only [Act.put, List.setIfInBounds_toArray, List.set_cons_zero, List.set_cons_succ]
            refine wpAnyH_take (i := 10) (oi := { dst := some 32, op := Op.binOp BinOp.eql _ (Operand.tmp 30) (Operand.tmp 31) _, type := _, pos := _, after := _, guard := some (7, true) }) (v := undef) rfl (by kernel_rfl) (by kernel_rfl) (by kernel_rfl) (fun _ _ _ h => h) (Or.inr ⟨by rfl, rfl⟩) HS ?_
            simp only [Act.put, List.setIfInBounds_toArray, List.set_cons_zero, List.set_cons_succ]
            refine wpAnyH_take (i := 11) (oi := { dst := some 33, op := Op.pick (Operand.tmp 29) (Operand.tmp 32) (Operand.const (Value.bool false)), type := _, pos := _, after := _, guard := none }) (v := .bool (false)) rfl (by kernel_rfl) (by kernel_rfl) (by kernel_rfl) (fun _ _ _ h => h) (Or.inl ⟨by rfl, fun wx hx => by go_simp⟩) HS ?_
            simp only [Act.put, List.setIfInBounds_toArray, List.set_cons_zero, List.set_cons_succ]
            refine wpAnyH_done (by kernel_rfl) ?_ _
            refine NoPanic.normal ?_
            obtain ⟨c0, k0⟩ := HS.at (w.heap.size) (c) (by simp)
            obtain ⟨c1, k1⟩ := HS.at (w.heap.size + 1) (a) (by simp)
            obtain ⟨c2, k2⟩ := HS.at (w.heap.size + 1 + 1) (d) (by simp)
            obtain ⟨x, y, r0, r1, z0, z1⟩ := HS.res
            have HF := hide (HS.fin (.int .i64 0) (.int .i64 0))
            clear HS
            go_wp2
            obtain ⟨s0, s1⟩ := (unhide HF).1.two
            exact bodyPost_ret (v := .tuple #[.agg #[.int .i64 (noT).1, .int .i64 (noT).2], .int .i64 230]) (by simp [results, Try.results22, go_sem, s0, s1, noT]) rfl ⟨rfl, (unhide HF).2⟩
end Go.Proofs.Ytokmplebajgckaa
