/-
  Types: what comes of an operator between two types.
-/
import Derived.Test.YtokmplebajgckaaKE
namespace Go.Proofs.Ytokmplebajgckaa
open Go.RowKit
set_option linter.unusedVariables false
set_option linter.unusedSimpArgs false

set_option maxHeartbeats 4000000 in
theorem binary_any (o : Byts8) (a c : Ty) (w : World) :
    Calls Try.prog 15 #[.string ⟨o.toArray⟩, .agg #[.int .i64 (a).1, .int .i64 (a).2], .agg #[.int .i64 (c).1, .int .i64 (c).2]] w fun e w' => e = .returned (.tuple #[.agg #[.int .i64 ((binP o a c).1).1, .int .i64 ((binP o a c).1).2], .int .i64 (binP o a c).2]) ∧ Ext w w' := by
  have H0 := hide (reg2 w a c)
  have HM := hide (mayBe_any _ [a, c] _ (TyR.two (w := ((w.alloc (.cells #[.int .i64 (a).1, .int .i64 (a).2] 23)).alloc (.cells #[.int .i64 (c).1, .int .i64 (c).2] 23)).alloc (.cells #[.int .i64 0, .int .i64 0] 23)) (b := w.heap.size + 1 + 1 + 1) (by simp) a c 23))
  obtain ⟨U, hU⟩ : ∃ U, binP o a c = U := ⟨_, rfl⟩
  rw [hU]
  unfold binP at hU
  go_enter Try.func15, Try.ntmps15
  go_wp2_with fail
  refine (unhide HM).mono ?_
  rintro e w1 ⟨rfl, hx1⟩
  have H1 := hide (Reg.ext hx1 (Reg.ext ((Ext.refl _).alloc _) (unhide H0)))
  clear hx1 H0 HM
  rw [show [a, c].all mayP = (mayP a && mayP c) by simp]
  cases hm : (mayP a && mayP c) with
  | false =>
    rw [if_pos hm] at hU
    subst hU
    obtain ⟨x, y, r0, r1, z0, z1⟩ := (unhide H1).res
    have HF := hide ((unhide H1).fin (.int .i64 0) (.int .i64 0))
    go_wp2
    obtain ⟨s0, s1⟩ := (unhide HF).1.two
    exact bodyPost_ret (v := .tuple #[.agg #[.int .i64 (noT).1, .int .i64 (noT).2], .int .i64 2]) (by simp [results, Try.results15, go_sem, s0, s1, noT]) rfl ⟨rfl, (unhide HF).2⟩
  | true =>
    rw [if_neg (by rw [hm]; decide)] at hU
    clear hm
    by_cases h1 : o ∈ op1
    · rw [if_pos (by simpa using h1)] at hU
      unfold op1 at h1
      simp only [List.mem_cons, List.not_mem_nil, or_false] at h1
      rcases h1 with rfl | rfl | rfl | rfl <;>
      · have HTG := hide (together_any a c)
        generalize togB a c = g at *
        generalize sumT a c = S at *
        subst hU
        obtain ⟨c0, c1⟩ := (unhide H1).at (w.heap.size) a (by simp)
        obtain ⟨d0, d1⟩ := (unhide H1).at (w.heap.size + 1) c (by simp)
        go_wp2_with fail
        refine (unhide HTG _).mono ?_
        rintro e w2 ⟨rfl, hx2⟩
        have H3 := hide (Reg.ext hx2 (unhide H1))
        clear hx2 HTG c0 c1 d0 d1 H1
        go_wp2_with fail
        refine (comes_any S g _).mono ?_
        rintro e w3 ⟨rfl, hx3⟩
        have H4 := hide (Reg.ext hx3 (unhide H3))
        clear hx3 H3
        obtain ⟨x, y, r0, r1, z0, z1⟩ := (unhide H4).res
        have HF := hide ((unhide H4).fin (.int .i64 (comP S g).1.1) (.int .i64 (comP S g).1.2))
        go_wp2
        obtain ⟨s0, s1⟩ := (unhide HF).1.two
        exact bodyPost_ret (v := .tuple #[.agg #[.int .i64 ((comP (S) (g)).1).1, .int .i64 ((comP (S) (g)).1).2], .int .i64 (comP (S) (g)).2]) (by simp [results, Try.results15, go_sem, s0, s1]) rfl ⟨rfl, (unhide HF).2⟩
    · rw [if_neg (by simpa using h1)] at hU
      by_cases h2 : o ∈ op2
      · rw [if_pos (by simpa using h2)] at hU
        unfold op2 at h2
        simp only [List.mem_cons, List.not_mem_nil, or_false] at h2
        rcases h2 with rfl | rfl | rfl | rfl <;>
        · cases hq : eqT a c with
          | true =>
            rw [hq] at hU
            have eq := eqT_iff.1 hq
            subst eq
            have q1 : ((a).1 == (a).1) = true := by simp
            have q2 : ((a).2 == (a).2) = true := by simp
            have HN1 := isNumber_any a
            cases hn : numP a with
            | false =>
              rw [hn] at HN1
              rw [hn, Bool.true_and, Bool.false_and] at hU
              subst hU
              go_upto_region 13 with fail
              refine wp_region_noPanic ?_
              refine wp_region_held_drew (S := fun wx => Reg w [(w.heap.size, a), (w.heap.size + 1, a)] (w.heap.size + 1 + 1) wx) (by kernel_rfl) ((unhide H1).drew) (fun HS => ?_)
              refine wpAnyH_take (i := 1) (oi := { dst := some 34, op := Op.load _ (Operand.tmp 4), type := _, pos := _, after := _, guard := none }) (v := .agg #[.int .i64 (a).1, .int .i64 (a).2]) rfl (by kernel_rfl) (by kernel_rfl) (by kernel_rfl) (fun _ _ _ h => h) (Or.inl ⟨by rfl, fun wx hx => by obtain ⟨c0, c1⟩ := hx.at (w.heap.size) (a) (by simp); go_simp⟩) HS ?_
              simp only [Act.put, List.setIfInBounds_toArray, List.set_cons_zero, List.set_cons_succ]
              refine wpAnyH_take (i := 2) (oi := { dst := some 35, op := Op.load _ (Operand.tmp 5), type := _, pos := _, after := _, guard := none }) (v := .agg #[.int .i64 (a).1, .int .i64 (a).2]) rfl (by kernel_rfl) (by kernel_rfl) (by kernel_rfl) (fun _ _ _ h => h) (Or.inl ⟨by rfl, fun wx hx => by obtain ⟨c0, c1⟩ := hx.at (w.heap.size + 1) (a) (by simp); go_simp⟩) HS ?_
              simp only [Act.put, List.setIfInBounds_toArray, List.set_cons_zero, List.set_cons_succ]
              refine wpAnyH_take (i := 3) (oi := { dst := some 36, op := Op.binOp BinOp.eql _ (Operand.tmp 34) (Operand.tmp 35) _, type := _, pos := _, after := _, guard := none }) (v := .bool (true)) rfl (by kernel_rfl) (by kernel_rfl) (by kernel_rfl) (fun _ _ _ h => h) (Or.inl ⟨by rfl, fun wx hx => by go_simp⟩) HS ?_
              simp only [Act.put, List.setIfInBounds_toArray, List.set_cons_zero, List.set_cons_succ]
              refine wpAnyH_ready (rs := [0]) (by kernel_rfl) (by simp) (AllReadyH.cons (o := { dst := some 33, op := Op.call { callee := Callee.value (Operand.func _), args := #[], argTypes := _ }, type := _, pos := _, after := _, guard := none }) rfl (fun KK hK => ?_) AllReadyH.nil)
              go_simp
              refine (truth_any _).mono ?_
              rintro e ws ⟨rfl, hxs⟩
              have HS2 := Reg.ext hxs HS
              clear hxs HS
              have HS := HS2
              clear HS2
              refine hK.out _ _ HS (fun _ => ?_)
              clear hK KK
              try simp only [Act.put, List.setIfInBounds_toArray, List.set_cons_zero, List.set_cons_succ]
              refine wpAnyH_take (i := 4) (oi := { dst := some 37, op := Op.move (Operand.tmp 36), type := _, pos := _, after := _, guard := none }) (v := .bool (true)) rfl (by kernel_rfl) (by kernel_rfl) (by kernel_rfl) (fun _ _ _ h => h) (Or.inl ⟨by rfl, fun wx hx => by go_simp⟩) HS ?_
              simp only [Act.put, List.setIfInBounds_toArray, List.set_cons_zero, List.set_cons_succ]
              refine wpAnyH_take (i := 5) (oi := { dst := some 38, op := Op.load _ (Operand.tmp 4), type := _, pos := _, after := _, guard := some (4, true) }) (v := .agg #[.int .i64 (a).1, .int .i64 (a).2]) rfl (by kernel_rfl) (by kernel_rfl) (by kernel_rfl) (fun _ _ _ h => h) (Or.inl ⟨by rfl, fun wx hx => by obtain ⟨c0, c1⟩ := hx.at (w.heap.size) (a) (by simp); go_simp⟩) HS ?_
              simp only [Act.put, List.setIfInBounds_toArray, List.set_cons_zero, List.set_cons_succ]
              refine wpAnyH_ready (rs := [6]) (by kernel_rfl) (by simp) (AllReadyH.cons (o := { dst := some 39, op := Op.call { callee := Callee.value (Operand.func _), args := #[Operand.tmp 38], argTypes := _ }, type := _, pos := _, after := _, guard := some (4, true) }) rfl (fun KK hK => ?_) AllReadyH.nil)
              go_simp
              refine (HN1 _).mono ?_
              rintro e ws ⟨rfl, hxs⟩
              have HS2 := Reg.ext hxs HS
              clear hxs HS
              have HS := HS2
              clear HS2
              refine hK.out _ _ HS (fun _ => ?_)
              clear hK KK
              try simp only [Act.put, List.setIfInBounds_toArray, List.set_cons_zero, List.set_cons_succ]
              refine wpAnyH_take (i := 7) (oi := { dst := some 40, op := Op.pick (Operand.tmp 37) (Operand.tmp 39) (Operand.const (Value.bool false)), type := _, pos := _, after := _, guard := none }) (v := .bool (false)) rfl (by kernel_rfl) (by kernel_rfl) (by kernel_rfl) (fun _ _ _ h => h) (Or.inl ⟨by rfl, fun wx hx => by go_simp⟩) HS ?_
              simp only [Act.put, List.setIfInBounds_toArray, List.set_cons_zero, List.set_cons_succ]
              refine wpAnyH_take (i := 8) (oi := { dst := some 41, op := Op.move (Operand.tmp 40), type := _, pos := _, after := _, guard := none }) (v := .bool (false)) rfl (by kernel_rfl) (by kernel_rfl) (by kernel_rfl) (fun _ _ _ h => h) (Or.inl ⟨by rfl, fun wx hx => by go_simp⟩) HS ?_
              simp only [Act.put, List.setIfInBounds_toArray, List.set_cons_zero, List.set_cons_succ]
              refine wpAnyH_take (i := 9) (oi := { dst := some 42, op := Op.load _ (Operand.tmp 4), type := _, pos := _, after := _, guard := some (8, true) }) (v := undef) rfl (by kernel_rfl) (by kernel_rfl) (by kernel_rfl) (fun _ _ _ h => h) (Or.inr ⟨by rfl, rfl⟩) HS ?_
              simp only [Act.put, List.setIfInBounds_toArray, List.set_cons_zero, List.set_cons_succ]
              refine wpAnyH_take (i := 10) (oi := { dst := some 43, op := Op.call { callee := Callee.value (Operand.func _), args := #[Operand.tmp 42], argTypes := _ }, type := _, pos := _, after := _, guard := some (8, true) }) (v := undef) rfl (by kernel_rfl) (by kernel_rfl) (by kernel_rfl) (fun _ _ _ h => h) (Or.inr ⟨by rfl, rfl⟩) HS ?_
              simp only [Act.put, List.setIfInBounds_toArray, List.set_cons_zero, List.set_cons_succ]
              refine wpAnyH_take (i := 11) (oi := { dst := some 44, op := Op.pick (Operand.tmp 41) (Operand.tmp 43) (Operand.const (Value.bool false)), type := _, pos := _, after := _, guard := none }) (v := .bool (false)) rfl (by kernel_rfl) (by kernel_rfl) (by kernel_rfl) (fun _ _ _ h => h) (Or.inl ⟨by rfl, fun wx hx => by go_simp⟩) HS ?_
              simp only [Act.put, List.setIfInBounds_toArray, List.set_cons_zero, List.set_cons_succ]
              refine wpAnyH_ready (rs := [12]) (by kernel_rfl) (by simp) (AllReadyH.cons (o := { dst := some 45, op := Op.call { callee := Callee.value (Operand.func _), args := #[Operand.tmp 33, Operand.tmp 44], argTypes := _ }, type := _, pos := _, after := _, guard := none }) rfl (fun KK hK => ?_) AllReadyH.nil)
              go_simp
              refine (comes_any (truT) (false) _).mono ?_
              rintro e ws ⟨rfl, hxs⟩
              have HS2 := Reg.ext hxs HS
              clear hxs HS
              have HS := HS2
              clear HS2
              refine hK.out _ _ HS (fun _ => ?_)
              clear hK KK
              try simp only [Act.put, List.setIfInBounds_toArray, List.set_cons_zero, List.set_cons_succ]
              refine wpAnyH_take (i := 13) (oi := { dst := some 46, op := Op.extract (Operand.tmp 45) 0, type := _, pos := _, after := _, guard := none }) (v := .agg #[.int .i64 ((comP (truT) (false)).1).1, .int .i64 ((comP (truT) (false)).1).2]) rfl (by kernel_rfl) (by kernel_rfl) (by kernel_rfl) (fun _ _ _ h => h) (Or.inl ⟨by rfl, fun wx hx => by go_simp⟩) HS ?_
              simp only [Act.put, List.setIfInBounds_toArray, List.set_cons_zero, List.set_cons_succ]
              refine wpAnyH_take (i := 14) (oi := { dst := some 47, op := Op.extract (Operand.tmp 45) 1, type := _, pos := _, after := _, guard := none }) (v := .int .i64 ((comP (truT) (false)).2)) rfl (by kernel_rfl) (by kernel_rfl) (by kernel_rfl) (fun _ _ _ h => h) (Or.inl ⟨by rfl, fun wx hx => by go_simp⟩) HS ?_
              simp only [Act.put, List.setIfInBounds_toArray, List.set_cons_zero, List.set_cons_succ]
              refine wpAnyH_ready (rs := [15]) (by kernel_rfl) (by simp) (AllReadyH.cons (o := { dst := none, op := Op.store _ (Operand.tmp 6) (Operand.tmp 46), type := _, pos := _, after := _, guard := none }) rfl (fun KK hK => ?_) AllReadyH.nil)
              obtain ⟨x, y, r0, r1, z0, z1⟩ := HS.res
              have HF := hide (HS.fin (.int .i64 ((comP (truT) (false)).1).1) (.int .i64 ((comP (truT) (false)).1).2))
              go_simp
              refine hK.out _ _ (Reg.put HS (.int .i64 ((comP (truT) (false)).1).1) (.int .i64 ((comP (truT) (false)).1).2)) (fun _ => ?_)
              have HS2 := Reg.put HS (.int .i64 ((comP (truT) (false)).1).1) (.int .i64 ((comP (truT) (false)).1).2)
              clear hK KK HS
              have HS := HS2
              clear HS2
              try simp only [Act.put, List.setIfInBounds_toArray, List.set_cons_zero, List.set_cons_succ]
              refine wpAnyH_take (i := 16) (oi := { dst := some 7, op := Op.assign (Operand.tmp 47), type := _, pos := _, after := _, guard := none }) (v := .int .i64 ((comP (truT) (false)).2)) rfl (by kernel_rfl) (by kernel_rfl) (by kernel_rfl) (fun _ _ _ h => h) (Or.inl ⟨by rfl, fun wx hx => by go_simp⟩) HS ?_
              simp only [Act.put, List.setIfInBounds_toArray, List.set_cons_zero, List.set_cons_succ]
              refine wpAnyH_done (by kernel_rfl) ?_ _
              refine NoPanic.normal ?_
              go_wp2
              obtain ⟨s0, s1⟩ := (unhide HF).1.two
              exact bodyPost_ret (v := .tuple #[.agg #[.int .i64 ((comP (truT) (false)).1).1, .int .i64 ((comP (truT) (false)).1).2], .int .i64 (comP (truT) (false)).2]) (by simp [results, Try.results15, go_sem, s0, s1]) rfl ⟨rfl, (unhide HF).2⟩
            | true =>
              rw [hn] at HN1
              rw [hn, Bool.true_and, Bool.true_and] at hU
              subst hU
              go_upto_region 13 with fail
              refine wp_region_noPanic ?_
              refine wp_region_held_drew (S := fun wx => Reg w [(w.heap.size, a), (w.heap.size + 1, a)] (w.heap.size + 1 + 1) wx) (by kernel_rfl) ((unhide H1).drew) (fun HS => ?_)
              refine wpAnyH_take (i := 1) (oi := { dst := some 34, op := Op.load _ (Operand.tmp 4), type := _, pos := _, after := _, guard := none }) (v := .agg #[.int .i64 (a).1, .int .i64 (a).2]) rfl (by kernel_rfl) (by kernel_rfl) (by kernel_rfl) (fun _ _ _ h => h) (Or.inl ⟨by rfl, fun wx hx => by obtain ⟨c0, c1⟩ := hx.at (w.heap.size) (a) (by simp); go_simp⟩) HS ?_
              simp only [Act.put, List.setIfInBounds_toArray, List.set_cons_zero, List.set_cons_succ]
              refine wpAnyH_take (i := 2) (oi := { dst := some 35, op := Op.load _ (Operand.tmp 5), type := _, pos := _, after := _, guard := none }) (v := .agg #[.int .i64 (a).1, .int .i64 (a).2]) rfl (by kernel_rfl) (by kernel_rfl) (by kernel_rfl) (fun _ _ _ h => h) (Or.inl ⟨by rfl, fun wx hx => by obtain ⟨c0, c1⟩ := hx.at (w.heap.size + 1) (a) (by simp); go_simp⟩) HS ?_
              simp only [Act.put, List.setIfInBounds_toArray, List.set_cons_zero, List.set_cons_succ]
              refine wpAnyH_take (i := 3) (oi := { dst := some 36, op := Op.binOp BinOp.eql _ (Operand.tmp 34) (Operand.tmp 35) _, type := _, pos := _, after := _, guard := none }) (v := .bool (true)) rfl (by kernel_rfl) (by kernel_rfl) (by kernel_rfl) (fun _ _ _ h => h) (Or.inl ⟨by rfl, fun wx hx => by go_simp⟩) HS ?_
              simp only [Act.put, List.setIfInBounds_toArray, List.set_cons_zero, List.set_cons_succ]
              refine wpAnyH_ready (rs := [0]) (by kernel_rfl) (by simp) (AllReadyH.cons (o := { dst := some 33, op := Op.call { callee := Callee.value (Operand.func _), args := #[], argTypes := _ }, type := _, pos := _, after := _, guard := none }) rfl (fun KK hK => ?_) AllReadyH.nil)
              go_simp
              refine (truth_any _).mono ?_
              rintro e ws ⟨rfl, hxs⟩
              have HS2 := Reg.ext hxs HS
              clear hxs HS
              have HS := HS2
              clear HS2
              refine hK.out _ _ HS (fun _ => ?_)
              clear hK KK
              try simp only [Act.put, List.setIfInBounds_toArray, List.set_cons_zero, List.set_cons_succ]
              refine wpAnyH_take (i := 4) (oi := { dst := some 37, op := Op.move (Operand.tmp 36), type := _, pos := _, after := _, guard := none }) (v := .bool (true)) rfl (by kernel_rfl) (by kernel_rfl) (by kernel_rfl) (fun _ _ _ h => h) (Or.inl ⟨by rfl, fun wx hx => by go_simp⟩) HS ?_
              simp only [Act.put, List.setIfInBounds_toArray, List.set_cons_zero, List.set_cons_succ]
              refine wpAnyH_take (i := 5) (oi := { dst := some 38, op := Op.load _ (Operand.tmp 4), type := _, pos := _, after := _, guard := some (4, true) }) (v := .agg #[.int .i64 (a).1, .int .i64 (a).2]) rfl (by kernel_rfl) (by kernel_rfl) (by kernel_rfl) (fun _ _ _ h => h) (Or.inl ⟨by rfl, fun wx hx => by obtain ⟨c0, c1⟩ := hx.at (w.heap.size) (a) (by simp); go_simp⟩) HS ?_
              simp only [Act.put, List.setIfInBounds_toArray, List.set_cons_zero, List.set_cons_succ]
              refine wpAnyH_ready (rs := [6]) (by kernel_rfl) (by simp) (AllReadyH.cons (o := { dst := some 39, op := Op.call { callee := Callee.value (Operand.func _), args := #[Operand.tmp 38], argTypes := _ }, type := _, pos := _, after := _, guard := some (4, true) }) rfl (fun KK hK => ?_) AllReadyH.nil)
              go_simp
              refine (HN1 _).mono ?_
              rintro e ws ⟨rfl, hxs⟩
              have HS2 := Reg.ext hxs HS
              clear hxs HS
              have HS := HS2
              clear HS2
              refine hK.out _ _ HS (fun _ => ?_)
              clear hK KK
              try simp only [Act.put, List.setIfInBounds_toArray, List.set_cons_zero, List.set_cons_succ]
              refine wpAnyH_take (i := 7) (oi := { dst := some 40, op := Op.pick (Operand.tmp 37) (Operand.tmp 39) (Operand.const (Value.bool false)), type := _, pos := _, after := _, guard := none }) (v := .bool (true)) rfl (by kernel_rfl) (by kernel_rfl) (by kernel_rfl) (fun _ _ _ h => h) (Or.inl ⟨by rfl, fun wx hx => by go_simp⟩) HS ?_
              simp only [Act.put, List.setIfInBounds_toArray, List.set_cons_zero, List.set_cons_succ]
              refine wpAnyH_take (i := 8) (oi := { dst := some 41, op := Op.move (Operand.tmp 40), type := _, pos := _, after := _, guard := none }) (v := .bool (true)) rfl (by kernel_rfl) (by kernel_rfl) (by kernel_rfl) (fun _ _ _ h => h) (Or.inl ⟨by rfl, fun wx hx => by go_simp⟩) HS ?_
              simp only [Act.put, List.setIfInBounds_toArray, List.set_cons_zero, List.set_cons_succ]
              refine wpAnyH_take (i := 9) (oi := { dst := some 42, op := Op.load _ (Operand.tmp 4), type := _, pos := _, after := _, guard := some (8, true) }) (v := .agg #[.int .i64 (a).1, .int .i64 (a).2]) rfl (by kernel_rfl) (by kernel_rfl) (by kernel_rfl) (fun _ _ _ h => h) (Or.inl ⟨by rfl, fun wx hx => by obtain ⟨c0, c1⟩ := hx.at (w.heap.size) (a) (by simp); go_simp⟩) HS ?_
              simp only [Act.put, List.setIfInBounds_toArray, List.set_cons_zero, List.set_cons_succ]
              refine wpAnyH_ready (rs := [10]) (by kernel_rfl) (by simp) (AllReadyH.cons (o := { dst := some 43, op := Op.call { callee := Callee.value (Operand.func _), args := #[Operand.tmp 42], argTypes := _ }, type := _, pos := _, after := _, guard := some (8, true) }) rfl (fun KK hK => ?_) AllReadyH.nil)
              go_simp
              refine (isPlain_any a _).mono ?_
              rintro e ws ⟨rfl, hxs⟩
              have HS2 := Reg.ext hxs HS
              clear hxs HS
              have HS := HS2
              clear HS2
              refine hK.out _ _ HS (fun _ => ?_)
              clear hK KK
              try simp only [Act.put, List.setIfInBounds_toArray, List.set_cons_zero, List.set_cons_succ]
              refine wpAnyH_take (i := 11) (oi := { dst := some 44, op := Op.pick (Operand.tmp 41) (Operand.tmp 43) (Operand.const (Value.bool false)), type := _, pos := _, after := _, guard := none }) (v := .bool (plnP a)) rfl (by kernel_rfl) (by kernel_rfl) (by kernel_rfl) (fun _ _ _ h => h) (Or.inl ⟨by rfl, fun wx hx => by go_simp⟩) HS ?_
              simp only [Act.put, List.setIfInBounds_toArray, List.set_cons_zero, List.set_cons_succ]
              refine wpAnyH_ready (rs := [12]) (by kernel_rfl) (by simp) (AllReadyH.cons (o := { dst := some 45, op := Op.call { callee := Callee.value (Operand.func _), args := #[Operand.tmp 33, Operand.tmp 44], argTypes := _ }, type := _, pos := _, after := _, guard := none }) rfl (fun KK hK => ?_) AllReadyH.nil)
              go_simp
              refine (comes_any (truT) (plnP a) _).mono ?_
              rintro e ws ⟨rfl, hxs⟩
              have HS2 := Reg.ext hxs HS
              clear hxs HS
              have HS := HS2
              clear HS2
              refine hK.out _ _ HS (fun _ => ?_)
              clear hK KK
              try simp only [Act.put, List.setIfInBounds_toArray, List.set_cons_zero, List.set_cons_succ]
              refine wpAnyH_take (i := 13) (oi := { dst := some 46, op := Op.extract (Operand.tmp 45) 0, type := _, pos := _, after := _, guard := none }) (v := .agg #[.int .i64 ((comP (truT) (plnP a)).1).1, .int .i64 ((comP (truT) (plnP a)).1).2]) rfl (by kernel_rfl) (by kernel_rfl) (by kernel_rfl) (fun _ _ _ h => h) (Or.inl ⟨by rfl, fun wx hx => by go_simp⟩) HS ?_
              simp only [Act.put, List.setIfInBounds_toArray, List.set_cons_zero, List.set_cons_succ]
              refine wpAnyH_take (i := 14) (oi := { dst := some 47, op := Op.extract (Operand.tmp 45) 1, type := _, pos := _, after := _, guard := none }) (v := .int .i64 ((comP (truT) (plnP a)).2)) rfl (by kernel_rfl) (by kernel_rfl) (by kernel_rfl) (fun _ _ _ h => h) (Or.inl ⟨by rfl, fun wx hx => by go_simp⟩) HS ?_
              simp only [Act.put, List.setIfInBounds_toArray, List.set_cons_zero, List.set_cons_succ]
              refine wpAnyH_ready (rs := [15]) (by kernel_rfl) (by simp) (AllReadyH.cons (o := { dst := none, op := Op.store _ (Operand.tmp 6) (Operand.tmp 46), type := _, pos := _, after := _, guard := none }) rfl (fun KK hK => ?_) AllReadyH.nil)
              obtain ⟨x, y, r0, r1, z0, z1⟩ := HS.res
              have HF := hide (HS.fin (.int .i64 ((comP (truT) (plnP a)).1).1) (.int .i64 ((comP (truT) (plnP a)).1).2))
              go_simp
              refine hK.out _ _ (Reg.put HS (.int .i64 ((comP (truT) (plnP a)).1).1) (.int .i64 ((comP (truT) (plnP a)).1).2)) (fun _ => ?_)
              have HS2 := Reg.put HS (.int .i64 ((comP (truT) (plnP a)).1).1) (.int .i64 ((comP (truT) (plnP a)).1).2)
              clear hK KK HS
              have HS := HS2
              clear HS2
              try simp only [Act.put, List.setIfInBounds_toArray, List.set_cons_zero, List.set_cons_succ]
              refine wpAnyH_take (i := 16) (oi := { dst := some 7, op := Op.assign (Operand.tmp 47), type := _, pos := _, after := _, guard := none }) (v := .int .i64 ((comP (truT) (plnP a)).2)) rfl (by kernel_rfl) (by kernel_rfl) (by kernel_rfl) (fun _ _ _ h => h) (Or.inl ⟨by rfl, fun wx hx => by go_simp⟩) HS ?_
              simp only [Act.put, List.setIfInBounds_toArray, List.set_cons_zero, List.set_cons_succ]
              refine wpAnyH_done (by kernel_rfl) ?_ _
              refine NoPanic.normal ?_
              go_wp2
              obtain ⟨s0, s1⟩ := (unhide HF).1.two
              exact bodyPost_ret (v := .tuple #[.agg #[.int .i64 ((comP (truT) (plnP a)).1).1, .int .i64 ((comP (truT) (plnP a)).1).2], .int .i64 (comP (truT) (plnP a)).2]) (by simp [results, Try.results15, go_sem, s0, s1]) rfl ⟨rfl, (unhide HF).2⟩
          | false =>
            rw [hq] at hU
            rcases eqT_cases hq with q1 | ⟨q1, q2⟩ <;>
            · clear hq
              rw [Bool.false_and, Bool.false_and] at hU
              subst hU
              go_upto_region 13 with fail
              refine wp_region_noPanic ?_
              refine wp_region_held_drew (S := fun wx => Reg w [(w.heap.size, a), (w.heap.size + 1, c)] (w.heap.size + 1 + 1) wx) (by kernel_rfl) ((unhide H1).drew) (fun HS => ?_)
              refine wpAnyH_take (i := 1) (oi := { dst := some 34, op := Op.load _ (Operand.tmp 4), type := _, pos := _, after := _, guard := none }) (v := .agg #[.int .i64 (a).1, .int .i64 (a).2]) rfl (by kernel_rfl) (by kernel_rfl) (by kernel_rfl) (fun _ _ _ h => h) (Or.inl ⟨by rfl, fun wx hx => by obtain ⟨c0, c1⟩ := hx.at (w.heap.size) (a) (by simp); go_simp⟩) HS ?_
              simp only [Act.put, List.setIfInBounds_toArray, List.set_cons_zero, List.set_cons_succ]
              refine wpAnyH_take (i := 2) (oi := { dst := some 35, op := Op.load _ (Operand.tmp 5), type := _, pos := _, after := _, guard := none }) (v := .agg #[.int .i64 (c).1, .int .i64 (c).2]) rfl (by kernel_rfl) (by kernel_rfl) (by kernel_rfl) (fun _ _ _ h => h) (Or.inl ⟨by rfl, fun wx hx => by obtain ⟨c0, c1⟩ := hx.at (w.heap.size + 1) (c) (by simp); go_simp⟩) HS ?_
              simp only [Act.put, List.setIfInBounds_toArray, List.set_cons_zero, List.set_cons_succ]
              refine wpAnyH_take (i := 3) (oi := { dst := some 36, op := Op.binOp BinOp.eql _ (Operand.tmp 34) (Operand.tmp 35) _, type := _, pos := _, after := _, guard := none }) (v := .bool (false)) rfl (by kernel_rfl) (by kernel_rfl) (by kernel_rfl) (fun _ _ _ h => h) (Or.inl ⟨by rfl, fun wx hx => by go_simp⟩) HS ?_
              simp only [Act.put, List.setIfInBounds_toArray, List.set_cons_zero, List.set_cons_succ]
              refine wpAnyH_ready (rs := [0]) (by kernel_rfl) (by simp) (AllReadyH.cons (o := { dst := some 33, op := Op.call { callee := Callee.value (Operand.func _), args := #[], argTypes := _ }, type := _, pos := _, after := _, guard := none }) rfl (fun KK hK => ?_) AllReadyH.nil)
              go_simp
              refine (truth_any _).mono ?_
              rintro e ws ⟨rfl, hxs⟩
              have HS2 := Reg.ext hxs HS
              clear hxs HS
              have HS := HS2
              clear HS2
              refine hK.out _ _ HS (fun _ => ?_)
              clear hK KK
              try simp only [Act.put, List.setIfInBounds_toArray, List.set_cons_zero, List.set_cons_succ]
              refine wpAnyH_take (i := 4) (oi := { dst := some 37, op := Op.move (Operand.tmp 36), type := _, pos := _, after := _, guard := none }) (v := .bool (false)) rfl (by kernel_rfl) (by kernel_rfl) (by kernel_rfl) (fun _ _ _ h => h) (Or.inl ⟨by rfl, fun wx hx => by go_simp⟩) HS ?_
              simp only [Act.put, List.setIfInBounds_toArray, List.set_cons_zero, List.set_cons_succ]
              refine wpAnyH_take (i := 5) (oi := { dst := some 38, op := Op.load _ (Operand.tmp 4), type := _, pos := _, after := _, guard := some (4, true) }) (v := undef) rfl (by kernel_rfl) (by kernel_rfl) (by kernel_rfl) (fun _ _ _ h => h) (Or.inr ⟨by rfl, rfl⟩) HS ?_
              simp only [Act.put, List.setIfInBounds_toArray, List.set_cons_zero, List.set_cons_succ]
              refine wpAnyH_take (i := 6) (oi := { dst := some 39, op := Op.call { callee := Callee.value (Operand.func _), args := #[Operand.tmp 38], argTypes := _ }, type := _, pos := _, after := _, guard := some (4, true) }) (v := undef) rfl (by kernel_rfl) (by kernel_rfl) (by kernel_rfl) (fun _ _ _ h => h) (Or.inr ⟨by rfl, rfl⟩) HS ?_
              simp only [Act.put, List.setIfInBounds_toArray, List.set_cons_zero, List.set_cons_succ]
              refine wpAnyH_take (i := 7) (oi := { dst := some 40, op := Op.pick (Operand.tmp 37) (Operand.tmp 39) (Operand.const (Value.bool false)), type := _, pos := _, after := _, guard := none }) (v := .bool (false)) rfl (by kernel_rfl) (by kernel_rfl) (by kernel_rfl) (fun _ _ _ h => h) (Or.inl ⟨by rfl, fun wx hx => by go_simp⟩) HS ?_
              simp only [Act.put, List.setIfInBounds_toArray, List.set_cons_zero, List.set_cons_succ]
              refine wpAnyH_take (i := 8) (oi := { dst := some 41, op := Op.move (Operand.tmp 40), type := _, pos := _, after := _, guard := none }) (v := .bool (false)) rfl (by kernel_rfl) (by kernel_rfl) (by kernel_rfl) (fun _ _ _ h => h) (Or.inl ⟨by rfl, fun wx hx => by go_simp⟩) HS ?_
              simp only [Act.put, List.setIfInBounds_toArray, List.set_cons_zero, List.set_cons_succ]
              refine wpAnyH_take (i := 9) (oi := { dst := some 42, op := Op.load _ (Operand.tmp 4), type := _, pos := _, after := _, guard := some (8, true) }) (v := undef) rfl (by kernel_rfl) (by kernel_rfl) (by kernel_rfl) (fun _ _ _ h => h) (Or.inr ⟨by rfl, rfl⟩) HS ?_
              simp only [Act.put, List.setIfInBounds_toArray, List.set_cons_zero, List.set_cons_succ]
              refine wpAnyH_take (i := 10) (oi := { dst := some 43, op := Op.call { callee := Callee.value (Operand.func _), args := #[Operand.tmp 42], argTypes := _ }, type := _, pos := _, after := _, guard := some (8, true) }) (v := undef) rfl (by kernel_rfl) (by kernel_rfl) (by kernel_rfl) (fun _ _ _ h => h) (Or.inr ⟨by rfl, rfl⟩) HS ?_
              simp only [Act.put, List.setIfInBounds_toArray, List.set_cons_zero, List.set_cons_succ]
              refine wpAnyH_take (i := 11) (oi := { dst := some 44, op := Op.pick (Operand.tmp 41) (Operand.tmp 43) (Operand.const (Value.bool false)), type := _, pos := _, after := _, guard := none }) (v := .bool (false)) rfl (by kernel_rfl) (by kernel_rfl) (by kernel_rfl) (fun _ _ _ h => h) (Or.inl ⟨by rfl, fun wx hx => by go_simp⟩) HS ?_
              simp only [Act.put, List.setIfInBounds_toArray, List.set_cons_zero, List.set_cons_succ]
              refine wpAnyH_ready (rs := [12]) (by kernel_rfl) (by simp) (AllReadyH.cons (o := { dst := some 45, op := Op.call { callee := Callee.value (Operand.func _), args := #[Operand.tmp 33, Operand.tmp 44], argTypes := _ }, type := _, pos := _, after := _, guard := none }) rfl (fun KK hK => ?_) AllReadyH.nil)
              go_simp
              refine (comes_any (truT) (false) _).mono ?_
              rintro e ws ⟨rfl, hxs⟩
              have HS2 := Reg.ext hxs HS
              clear hxs HS
              have HS := HS2
              clear HS2
              refine hK.out _ _ HS (fun _ => ?_)
              clear hK KK
              try simp only [Act.put, List.setIfInBounds_toArray, List.set_cons_zero, List.set_cons_succ]
              refine wpAnyH_take (i := 13) (oi := { dst := some 46, op := Op.extract (Operand.tmp 45) 0, type := _, pos := _, after := _, guard := none }) (v := .agg #[.int .i64 ((comP (truT) (false)).1).1, .int .i64 ((comP (truT) (false)).1).2]) rfl (by kernel_rfl) (by kernel_rfl) (by kernel_rfl) (fun _ _ _ h => h) (Or.inl ⟨by rfl, fun wx hx => by go_simp⟩) HS ?_
              simp only [Act.put, List.setIfInBounds_toArray, List.set_cons_zero, List.set_cons_succ]
              refine wpAnyH_take (i := 14) (oi := { dst := some 47, op := Op.extract (Operand.tmp 45) 1, type := _, pos := _, after := _, guard := none }) (v := .int .i64 ((comP (truT) (false)).2)) rfl (by kernel_rfl) (by kernel_rfl) (by kernel_rfl) (fun _ _ _ h => h) (Or.inl ⟨by rfl, fun wx hx => by go_simp⟩) HS ?_
              simp only [Act.put, List.setIfInBounds_toArray, List.set_cons_zero, List.set_cons_succ]
              refine wpAnyH_ready (rs := [15]) (by kernel_rfl) (by simp) (AllReadyH.cons (o := { dst := none, op := Op.store _ (Operand.tmp 6) (Operand.tmp 46), type := _, pos := _, after := _, guard := none }) rfl (fun KK hK => ?_) AllReadyH.nil)
              obtain ⟨x, y, r0, r1, z0, z1⟩ := HS.res
              have HF := hide (HS.fin (.int .i64 ((comP (truT) (false)).1).1) (.int .i64 ((comP (truT) (false)).1).2))
              go_simp
              refine hK.out _ _ (Reg.put HS (.int .i64 ((comP (truT) (false)).1).1) (.int .i64 ((comP (truT) (false)).1).2)) (fun _ => ?_)
              have HS2 := Reg.put HS (.int .i64 ((comP (truT) (false)).1).1) (.int .i64 ((comP (truT) (false)).1).2)
              clear hK KK HS
              have HS := HS2
              clear HS2
              try simp only [Act.put, List.setIfInBounds_toArray, List.set_cons_zero, List.set_cons_succ]
              refine wpAnyH_take (i := 16) (oi := { dst := some 7, op := Op.assign (Operand.tmp 47), type := _, pos := _, after := _, guard := none }) (v := .int .i64 ((comP (truT) (false)).2)) rfl (by kernel_rfl) (by kernel_rfl) (by kernel_rfl) (fun _ _ _ h => h) (Or.inl ⟨by rfl, fun wx hx => by go_simp⟩) HS ?_
              simp only [Act.put, List.setIfInBounds_toArray, List.set_cons_zero, List.set_cons_succ]
              refine wpAnyH_done (by kernel_rfl) ?_ _
              refine NoPanic.normal ?_
              go_wp2
              obtain ⟨s0, s1⟩ := (unhide HF).1.two
              exact bodyPost_ret (v := .tuple #[.agg #[.int .i64 ((comP (truT) (false)).1).1, .int .i64 ((comP (truT) (false)).1).2], .int .i64 (comP (truT) (false)).2]) (by simp [results, Try.results15, go_sem, s0, s1]) rfl ⟨rfl, (unhide HF).2⟩
      · rw [if_neg (by simpa using h2)] at hU
        by_cases h3 : o ∈ op3
        · rw [if_pos (by simpa using h3)] at hU
          unfold op3 at h3
          simp only [List.mem_cons, List.not_mem_nil, or_false] at h3
          rcases h3 with rfl | rfl <;>
          · cases hq : eqT a c with
            | true =>
              rw [hq] at hU
              have eq := eqT_iff.1 hq
              subst eq
              have q1 : ((a).1 == (a).1) = true := by simp
              have q2 : ((a).2 == (a).2) = true := by simp
              rw [Bool.true_and] at hU
              subst hU
              go_upto_region 16 with fail
              refine wp_region_noPanic ?_
              refine wp_region_held_drew (S := fun wx => Reg w [(w.heap.size, a), (w.heap.size + 1, a)] (w.heap.size + 1 + 1) wx) (by kernel_rfl) ((unhide H1).drew) (fun HS => ?_)
              refine wpAnyH_take (i := 1) (oi := { dst := some 52, op := Op.load _ (Operand.tmp 4), type := _, pos := _, after := _, guard := none }) (v := .agg #[.int .i64 (a).1, .int .i64 (a).2]) rfl (by kernel_rfl) (by kernel_rfl) (by kernel_rfl) (fun _ _ _ h => h) (Or.inl ⟨by rfl, fun wx hx => by obtain ⟨c0, c1⟩ := hx.at (w.heap.size) (a) (by simp); go_simp⟩) HS ?_
              simp only [Act.put, List.setIfInBounds_toArray, List.set_cons_zero, List.set_cons_succ]
              refine wpAnyH_take (i := 2) (oi := { dst := some 53, op := Op.load _ (Operand.tmp 5), type := _, pos := _, after := _, guard := none }) (v := .agg #[.int .i64 (a).1, .int .i64 (a).2]) rfl (by kernel_rfl) (by kernel_rfl) (by kernel_rfl) (fun _ _ _ h => h) (Or.inl ⟨by rfl, fun wx hx => by obtain ⟨c0, c1⟩ := hx.at (w.heap.size + 1) (a) (by simp); go_simp⟩) HS ?_
              simp only [Act.put, List.setIfInBounds_toArray, List.set_cons_zero, List.set_cons_succ]
              refine wpAnyH_take (i := 3) (oi := { dst := some 54, op := Op.binOp BinOp.eql _ (Operand.tmp 52) (Operand.tmp 53) _, type := _, pos := _, after := _, guard := none }) (v := .bool (true)) rfl (by kernel_rfl) (by kernel_rfl) (by kernel_rfl) (fun _ _ _ h => h) (Or.inl ⟨by rfl, fun wx hx => by go_simp⟩) HS ?_
              simp only [Act.put, List.setIfInBounds_toArray, List.set_cons_zero, List.set_cons_succ]
              refine wpAnyH_ready (rs := [0]) (by kernel_rfl) (by simp) (AllReadyH.cons (o := { dst := some 51, op := Op.call { callee := Callee.value (Operand.func _), args := #[], argTypes := _ }, type := _, pos := _, after := _, guard := none }) rfl (fun KK hK => ?_) AllReadyH.nil)
              go_simp
              refine (truth_any _).mono ?_
              rintro e ws ⟨rfl, hxs⟩
              have HS2 := Reg.ext hxs HS
              clear hxs HS
              have HS := HS2
              clear HS2
              refine hK.out _ _ HS (fun _ => ?_)
              clear hK KK
              try simp only [Act.put, List.setIfInBounds_toArray, List.set_cons_zero, List.set_cons_succ]
              refine wpAnyH_take (i := 4) (oi := { dst := some 55, op := Op.move (Operand.tmp 54), type := _, pos := _, after := _, guard := none }) (v := .bool (true)) rfl (by kernel_rfl) (by kernel_rfl) (by kernel_rfl) (fun _ _ _ h => h) (Or.inl ⟨by rfl, fun wx hx => by go_simp⟩) HS ?_
              simp only [Act.put, List.setIfInBounds_toArray, List.set_cons_zero, List.set_cons_succ]
              refine wpAnyH_take (i := 5) (oi := { dst := some 56, op := Op.load _ (Operand.tmp 4), type := _, pos := _, after := _, guard := some (4, true) }) (v := .agg #[.int .i64 (a).1, .int .i64 (a).2]) rfl (by kernel_rfl) (by kernel_rfl) (by kernel_rfl) (fun _ _ _ h => h) (Or.inl ⟨by rfl, fun wx hx => by obtain ⟨c0, c1⟩ := hx.at (w.heap.size) (a) (by simp); go_simp⟩) HS ?_
              simp only [Act.put, List.setIfInBounds_toArray, List.set_cons_zero, List.set_cons_succ]
              refine wpAnyH_ready (rs := [6]) (by kernel_rfl) (by simp) (AllReadyH.cons (o := { dst := some 57, op := Op.call { callee := Callee.value (Operand.func _), args := #[Operand.tmp 56], argTypes := _ }, type := _, pos := _, after := _, guard := some (4, true) }) rfl (fun KK hK => ?_) AllReadyH.nil)
              go_simp
              refine (isValue_any a _).mono ?_
              rintro e ws ⟨rfl, hxs⟩
              have HS2 := Reg.ext hxs HS
              clear hxs HS
              have HS := HS2
              clear HS2
              refine hK.out _ _ HS (fun _ => ?_)
              clear hK KK
              try simp only [Act.put, List.setIfInBounds_toArray, List.set_cons_zero, List.set_cons_succ]
              refine wpAnyH_take (i := 7) (oi := { dst := some 58, op := Op.pick (Operand.tmp 55) (Operand.tmp 57) (Operand.const (Value.bool false)), type := _, pos := _, after := _, guard := none }) (v := .bool (valuP a)) rfl (by kernel_rfl) (by kernel_rfl) (by kernel_rfl) (fun _ _ _ h => h) (Or.inl ⟨by rfl, fun wx hx => by go_simp⟩) HS ?_
              simp only [Act.put, List.setIfInBounds_toArray, List.set_cons_zero, List.set_cons_succ]
              refine wpAnyH_ready (rs := [8]) (by kernel_rfl) (by simp) (AllReadyH.cons (o := { dst := some 59, op := Op.call { callee := Callee.value (Operand.func _), args := #[Operand.tmp 51, Operand.tmp 58], argTypes := _ }, type := _, pos := _, after := _, guard := none }) rfl (fun KK hK => ?_) AllReadyH.nil)
              go_simp
              refine (comes_any (truT) (valuP a) _).mono ?_
              rintro e ws ⟨rfl, hxs⟩
              have HS2 := Reg.ext hxs HS
              clear hxs HS
              have HS := HS2
              clear HS2
              refine hK.out _ _ HS (fun _ => ?_)
              clear hK KK
              try simp only [Act.put, List.setIfInBounds_toArray, List.set_cons_zero, List.set_cons_succ]
              refine wpAnyH_take (i := 9) (oi := { dst := some 60, op := Op.extract (Operand.tmp 59) 0, type := _, pos := _, after := _, guard := none }) (v := .agg #[.int .i64 ((comP (truT) (valuP a)).1).1, .int .i64 ((comP (truT) (valuP a)).1).2]) rfl (by kernel_rfl) (by kernel_rfl) (by kernel_rfl) (fun _ _ _ h => h) (Or.inl ⟨by rfl, fun wx hx => by go_simp⟩) HS ?_
              simp only [Act.put, List.setIfInBounds_toArray, List.set_cons_zero, List.set_cons_succ]
              refine wpAnyH_take (i := 10) (oi := { dst := some 61, op := Op.extract (Operand.tmp 59) 1, type := _, pos := _, after := _, guard := none }) (v := .int .i64 ((comP (truT) (valuP a)).2)) rfl (by kernel_rfl) (by kernel_rfl) (by kernel_rfl) (fun _ _ _ h => h) (Or.inl ⟨by rfl, fun wx hx => by go_simp⟩) HS ?_
              simp only [Act.put, List.setIfInBounds_toArray, List.set_cons_zero, List.set_cons_succ]
              refine wpAnyH_ready (rs := [11]) (by kernel_rfl) (by simp) (AllReadyH.cons (o := { dst := none, op := Op.store _ (Operand.tmp 6) (Operand.tmp 60), type := _, pos := _, after := _, guard := none }) rfl (fun KK hK => ?_) AllReadyH.nil)
              obtain ⟨x, y, r0, r1, z0, z1⟩ := HS.res
              have HF := hide (HS.fin (.int .i64 ((comP (truT) (valuP a)).1).1) (.int .i64 ((comP (truT) (valuP a)).1).2))
              go_simp
              refine hK.out _ _ (Reg.put HS (.int .i64 ((comP (truT) (valuP a)).1).1) (.int .i64 ((comP (truT) (valuP a)).1).2)) (fun _ => ?_)
              have HS2 := Reg.put HS (.int .i64 ((comP (truT) (valuP a)).1).1) (.int .i64 ((comP (truT) (valuP a)).1).2)
              clear hK KK HS
              have HS := HS2
              clear HS2
              try simp only [Act.put, List.setIfInBounds_toArray, List.set_cons_zero, List.set_cons_succ]
              refine wpAnyH_take (i := 12) (oi := { dst := some 7, op := Op.assign (Operand.tmp 61), type := _, pos := _, after := _, guard := none }) (v := .int .i64 ((comP (truT) (valuP a)).2)) rfl (by kernel_rfl) (by kernel_rfl) (by kernel_rfl) (fun _ _ _ h => h) (Or.inl ⟨by rfl, fun wx hx => by go_simp⟩) HS ?_
              simp only [Act.put, List.setIfInBounds_toArray, List.set_cons_zero, List.set_cons_succ]
              refine wpAnyH_done (by kernel_rfl) ?_ _
              refine NoPanic.normal ?_
              go_wp2
              obtain ⟨s0, s1⟩ := (unhide HF).1.two
              exact bodyPost_ret (v := .tuple #[.agg #[.int .i64 ((comP (truT) (valuP a)).1).1, .int .i64 ((comP (truT) (valuP a)).1).2], .int .i64 (comP (truT) (valuP a)).2]) (by simp [results, Try.results15, go_sem, s0, s1]) rfl ⟨rfl, (unhide HF).2⟩
            | false =>
              rw [hq] at hU
              rcases eqT_cases hq with q1 | ⟨q1, q2⟩ <;>
              · clear hq
                rw [Bool.false_and] at hU
                subst hU
                go_upto_region 16 with fail
                refine wp_region_noPanic ?_
                refine wp_region_held_drew (S := fun wx => Reg w [(w.heap.size, a), (w.heap.size + 1, c)] (w.heap.size + 1 + 1) wx) (by kernel_rfl) ((unhide H1).drew) (fun HS => ?_)
                refine wpAnyH_take (i := 1) (oi := { dst := some 52, op := Op.load _ (Operand.tmp 4), type := _, pos := _, after := _, guard := none }) (v := .agg #[.int .i64 (a).1, .int .i64 (a).2]) rfl (by kernel_rfl) (by kernel_rfl) (by kernel_rfl) (fun _ _ _ h => h) (Or.inl ⟨by rfl, fun wx hx => by obtain ⟨c0, c1⟩ := hx.at (w.heap.size) (a) (by simp); go_simp⟩) HS ?_
                simp only [Act.put, List.setIfInBounds_toArray, List.set_cons_zero, List.set_cons_succ]
                refine wpAnyH_take (i := 2) (oi := { dst := some 53, op := Op.load _ (Operand.tmp 5), type := _, pos := _, after := _, guard := none }) (v := .agg #[.int .i64 (c).1, .int .i64 (c).2]) rfl (by kernel_rfl) (by kernel_rfl) (by kernel_rfl) (fun _ _ _ h => h) (Or.inl ⟨by rfl, fun wx hx => by obtain ⟨c0, c1⟩ := hx.at (w.heap.size + 1) (c) (by simp); go_simp⟩) HS ?_
                simp only [Act.put, List.setIfInBounds_toArray, List.set_cons_zero, List.set_cons_succ]
                refine wpAnyH_take (i := 3) (oi := { dst := some 54, op := Op.binOp BinOp.eql _ (Operand.tmp 52) (Operand.tmp 53) _, type := _, pos := _, after := _, guard := none }) (v := .bool (false)) rfl (by kernel_rfl) (by kernel_rfl) (by kernel_rfl) (fun _ _ _ h => h) (Or.inl ⟨by rfl, fun wx hx => by go_simp⟩) HS ?_
                simp only [Act.put, List.setIfInBounds_toArray, List.set_cons_zero, List.set_cons_succ]
                refine wpAnyH_ready (rs := [0]) (by kernel_rfl) (by simp) (AllReadyH.cons (o := { dst := some 51, op := Op.call { callee := Callee.value (Operand.func _), args := #[], argTypes := _ }, type := _, pos := _, after := _, guard := none }) rfl (fun KK hK => ?_) AllReadyH.nil)
                go_simp
                refine (truth_any _).mono ?_
                rintro e ws ⟨rfl, hxs⟩
                have HS2 := Reg.ext hxs HS
                clear hxs HS
                have HS := HS2
                clear HS2
                refine hK.out _ _ HS (fun _ => ?_)
                clear hK KK
                try simp only [Act.put, List.setIfInBounds_toArray, List.set_cons_zero, List.set_cons_succ]
                refine wpAnyH_take (i := 4) (oi := { dst := some 55, op := Op.move (Operand.tmp 54), type := _, pos := _, after := _, guard := none }) (v := .bool (false)) rfl (by kernel_rfl) (by kernel_rfl) (by kernel_rfl) (fun _ _ _ h => h) (Or.inl ⟨by rfl, fun wx hx => by go_simp⟩) HS ?_
                simp only [Act.put, List.setIfInBounds_toArray, List.set_cons_zero, List.set_cons_succ]
                refine wpAnyH_take (i := 5) (oi := { dst := some 56, op := Op.load _ (Operand.tmp 4), type := _, pos := _, after := _, guard := some (4, true) }) (v := undef) rfl (by kernel_rfl) (by kernel_rfl) (by kernel_rfl) (fun _ _ _ h => h) (Or.inr ⟨by rfl, rfl⟩) HS ?_
                simp only [Act.put, List.setIfInBounds_toArray, List.set_cons_zero, List.set_cons_succ]
                refine wpAnyH_take (i := 6) (oi := { dst := some 57, op := Op.call { callee := Callee.value (Operand.func _), args := #[Operand.tmp 56], argTypes := _ }, type := _, pos := _, after := _, guard := some (4, true) }) (v := undef) rfl (by kernel_rfl) (by kernel_rfl) (by kernel_rfl) (fun _ _ _ h => h) (Or.inr ⟨by rfl, rfl⟩) HS ?_
                simp only [Act.put, List.setIfInBounds_toArray, List.set_cons_zero, List.set_cons_succ]
                refine wpAnyH_take (i := 7) (oi := { dst := some 58, op := Op.pick (Operand.tmp 55) (Operand.tmp 57) (Operand.const (Value.bool false)), type := _, pos := _, after := _, guard := none }) (v := .bool (false)) rfl (by kernel_rfl) (by kernel_rfl) (by kernel_rfl) (fun _ _ _ h => h) (Or.inl ⟨by rfl, fun wx hx => by go_simp⟩) HS ?_
                simp only [Act.put, List.setIfInBounds_toArray, List.set_cons_zero, List.set_cons_succ]
                refine wpAnyH_ready (rs := [8]) (by kernel_rfl) (by simp) (AllReadyH.cons (o := { dst := some 59, op := Op.call { callee := Callee.value (Operand.func _), args := #[Operand.tmp 51, Operand.tmp 58], argTypes := _ }, type := _, pos := _, after := _, guard := none }) rfl (fun KK hK => ?_) AllReadyH.nil)
                go_simp
                refine (comes_any (truT) (false) _).mono ?_
                rintro e ws ⟨rfl, hxs⟩
                have HS2 := Reg.ext hxs HS
                clear hxs HS
                have HS := HS2
                clear HS2
                refine hK.out _ _ HS (fun _ => ?_)
                clear hK KK
                try simp only [Act.put, List.setIfInBounds_toArray, List.set_cons_zero, List.set_cons_succ]
                refine wpAnyH_take (i := 9) (oi := { dst := some 60, op := Op.extract (Operand.tmp 59) 0, type := _, pos := _, after := _, guard := none }) (v := .agg #[.int .i64 ((comP (truT) (false)).1).1, .int .i64 ((comP (truT) (false)).1).2]) rfl (by kernel_rfl) (by kernel_rfl) (by kernel_rfl) (fun _ _ _ h => h) (Or.inl ⟨by rfl, fun wx hx => by go_simp⟩) HS ?_
                simp only [Act.put, List.setIfInBounds_toArray, List.set_cons_zero, List.set_cons_succ]
                refine wpAnyH_take (i := 10) (oi := { dst := some 61, op := Op.extract (Operand.tmp 59) 1, type := _, pos := _, after := _, guard := none }) (v := .int .i64 ((comP (truT) (false)).2)) rfl (by kernel_rfl) (by kernel_rfl) (by kernel_rfl) (fun _ _ _ h => h) (Or.inl ⟨by rfl, fun wx hx => by go_simp⟩) HS ?_
                simp only [Act.put, List.setIfInBounds_toArray, List.set_cons_zero, List.set_cons_succ]
                refine wpAnyH_ready (rs := [11]) (by kernel_rfl) (by simp) (AllReadyH.cons (o := { dst := none, op := Op.store _ (Operand.tmp 6) (Operand.tmp 60), type := _, pos := _, after := _, guard := none }) rfl (fun KK hK => ?_) AllReadyH.nil)
                obtain ⟨x, y, r0, r1, z0, z1⟩ := HS.res
                have HF := hide (HS.fin (.int .i64 ((comP (truT) (false)).1).1) (.int .i64 ((comP (truT) (false)).1).2))
                go_simp
                refine hK.out _ _ (Reg.put HS (.int .i64 ((comP (truT) (false)).1).1) (.int .i64 ((comP (truT) (false)).1).2)) (fun _ => ?_)
                have HS2 := Reg.put HS (.int .i64 ((comP (truT) (false)).1).1) (.int .i64 ((comP (truT) (false)).1).2)
                clear hK KK HS
                have HS := HS2
                clear HS2
                try simp only [Act.put, List.setIfInBounds_toArray, List.set_cons_zero, List.set_cons_succ]
                refine wpAnyH_take (i := 12) (oi := { dst := some 7, op := Op.assign (Operand.tmp 61), type := _, pos := _, after := _, guard := none }) (v := .int .i64 ((comP (truT) (false)).2)) rfl (by kernel_rfl) (by kernel_rfl) (by kernel_rfl) (fun _ _ _ h => h) (Or.inl ⟨by rfl, fun wx hx => by go_simp⟩) HS ?_
                simp only [Act.put, List.setIfInBounds_toArray, List.set_cons_zero, List.set_cons_succ]
                refine wpAnyH_done (by kernel_rfl) ?_ _
                refine NoPanic.normal ?_
                go_wp2
                obtain ⟨s0, s1⟩ := (unhide HF).1.two
                exact bodyPost_ret (v := .tuple #[.agg #[.int .i64 ((comP (truT) (false)).1).1, .int .i64 ((comP (truT) (false)).1).2], .int .i64 (comP (truT) (false)).2]) (by simp [results, Try.results15, go_sem, s0, s1]) rfl ⟨rfl, (unhide HF).2⟩
        · rw [if_neg (by simpa using h3)] at hU
          by_cases h4 : o ∈ op4
          · rw [if_pos (by simpa using h4)] at hU
            unfold op4 at h4
            simp only [List.mem_cons, List.not_mem_nil, or_false] at h4
            rcases h4 with rfl | rfl <;>
            · cases hq : eqT a truT with
              | true =>
                rw [hq] at hU
                have eq := eqT_iff.1 hq
                subst eq
                have q1 : ((truT).1 == (truT).1) = true := by simp
                have q2 : ((truT).2 == (truT).2) = true := by simp
                cases hp : eqT c truT with
                | true =>
                  rw [hp] at hU
                  have ep := eqT_iff.1 hp
                  subst ep
                  have p1 : ((truT).1 == (truT).1) = true := by simp
                  have p2 : ((truT).2 == (truT).2) = true := by simp
                  rw [Bool.true_and] at hU
                  subst hU
                  go_upto_region 19 with fail
                  refine wp_region_noPanic ?_
                  refine wp_region_held_drew (S := fun wx => Reg w [(w.heap.size, truT), (w.heap.size + 1, truT)] (w.heap.size + 1 + 1) wx) (by kernel_rfl) ((unhide H1).drew) (fun HS => ?_)
                  refine wpAnyH_take (i := 1) (oi := { dst := some 66, op := Op.load _ (Operand.tmp 4), type := _, pos := _, after := _, guard := none }) (v := .agg #[.int .i64 (truT).1, .int .i64 (truT).2]) rfl (by kernel_rfl) (by kernel_rfl) (by kernel_rfl) (fun _ _ _ h => h) (Or.inl ⟨by rfl, fun wx hx => by obtain ⟨c0, c1⟩ := hx.at (w.heap.size) (truT) (by simp); go_simp⟩) HS ?_
                  simp only [Act.put, List.setIfInBounds_toArray, List.set_cons_zero, List.set_cons_succ]
                  refine wpAnyH_ready (rs := [0]) (by kernel_rfl) (by simp) (AllReadyH.cons (o := { dst := some 65, op := Op.call { callee := Callee.value (Operand.func _), args := #[], argTypes := _ }, type := _, pos := _, after := _, guard := none }) rfl (fun KK hK => ?_) AllReadyH.nil)
                  go_simp
                  refine (truth_any _).mono ?_
                  rintro e ws ⟨rfl, hxs⟩
                  have HS2 := Reg.ext hxs HS
                  clear hxs HS
                  have HS := HS2
                  clear HS2
                  refine hK.out _ _ HS (fun _ => ?_)
                  clear hK KK
                  try simp only [Act.put, List.setIfInBounds_toArray, List.set_cons_zero, List.set_cons_succ]
                  refine wpAnyH_ready (rs := [2]) (by kernel_rfl) (by simp) (AllReadyH.cons (o := { dst := some 67, op := Op.call { callee := Callee.value (Operand.func _), args := #[], argTypes := _ }, type := _, pos := _, after := _, guard := none }) rfl (fun KK hK => ?_) AllReadyH.nil)
                  go_simp
                  refine (truth_any _).mono ?_
                  rintro e ws ⟨rfl, hxs⟩
                  have HS2 := Reg.ext hxs HS
                  clear hxs HS
                  have HS := HS2
                  clear HS2
                  refine hK.out _ _ HS (fun _ => ?_)
                  clear hK KK
                  try simp only [Act.put, List.setIfInBounds_toArray, List.set_cons_zero, List.set_cons_succ]
                  refine wpAnyH_take (i := 3) (oi := { dst := some 68, op := Op.binOp BinOp.eql _ (Operand.tmp 66) (Operand.tmp 67) _, type := _, pos := _, after := _, guard := none }) (v := .bool (true)) rfl (by kernel_rfl) (by kernel_rfl) (by kernel_rfl) (fun _ _ _ h => h) (Or.inl ⟨by rfl, fun wx hx => by go_simp⟩) HS ?_
                  simp only [Act.put, List.setIfInBounds_toArray, List.set_cons_zero, List.set_cons_succ]
                  refine wpAnyH_take (i := 4) (oi := { dst := some 69, op := Op.move (Operand.tmp 68), type := _, pos := _, after := _, guard := none }) (v := .bool (true)) rfl (by kernel_rfl) (by kernel_rfl) (by kernel_rfl) (fun _ _ _ h => h) (Or.inl ⟨by rfl, fun wx hx => by go_simp⟩) HS ?_
                  simp only [Act.put, List.setIfInBounds_toArray, List.set_cons_zero, List.set_cons_succ]
                  refine wpAnyH_take (i := 5) (oi := { dst := some 70, op := Op.load _ (Operand.tmp 5), type := _, pos := _, after := _, guard := some (4, true) }) (v := .agg #[.int .i64 (truT).1, .int .i64 (truT).2]) rfl (by kernel_rfl) (by kernel_rfl) (by kernel_rfl) (fun _ _ _ h => h) (Or.inl ⟨by rfl, fun wx hx => by obtain ⟨c0, c1⟩ := hx.at (w.heap.size + 1) (truT) (by simp); go_simp⟩) HS ?_
                  simp only [Act.put, List.setIfInBounds_toArray, List.set_cons_zero, List.set_cons_succ]
                  refine wpAnyH_ready (rs := [6]) (by kernel_rfl) (by simp) (AllReadyH.cons (o := { dst := some 71, op := Op.call { callee := Callee.value (Operand.func _), args := #[], argTypes := _ }, type := _, pos := _, after := _, guard := some (4, true) }) rfl (fun KK hK => ?_) AllReadyH.nil)
                  go_simp
                  refine (truth_any _).mono ?_
                  rintro e ws ⟨rfl, hxs⟩
                  have HS2 := Reg.ext hxs HS
                  clear hxs HS
                  have HS := HS2
                  clear HS2
                  refine hK.out _ _ HS (fun _ => ?_)
                  clear hK KK
                  try simp only [Act.put, List.setIfInBounds_toArray, List.set_cons_zero, List.set_cons_succ]
                  refine wpAnyH_take (i := 7) (oi := { dst := some 72, op := Op.binOp BinOp.eql _ (Operand.tmp 70) (Operand.tmp 71) _, type := _, pos := _, after := _, guard := some (4, true) }) (v := .bool (true)) rfl (by kernel_rfl) (by kernel_rfl) (by kernel_rfl) (fun _ _ _ h => h) (Or.inl ⟨by rfl, fun wx hx => by go_simp⟩) HS ?_
                  simp only [Act.put, List.setIfInBounds_toArray, List.set_cons_zero, List.set_cons_succ]
                  refine wpAnyH_take (i := 8) (oi := { dst := some 73, op := Op.pick (Operand.tmp 69) (Operand.tmp 72) (Operand.const (Value.bool false)), type := _, pos := _, after := _, guard := none }) (v := .bool (true)) rfl (by kernel_rfl) (by kernel_rfl) (by kernel_rfl) (fun _ _ _ h => h) (Or.inl ⟨by rfl, fun wx hx => by go_simp⟩) HS ?_
                  simp only [Act.put, List.setIfInBounds_toArray, List.set_cons_zero, List.set_cons_succ]
                  refine wpAnyH_ready (rs := [9]) (by kernel_rfl) (by simp) (AllReadyH.cons (o := { dst := some 74, op := Op.call { callee := Callee.value (Operand.func _), args := #[Operand.tmp 65, Operand.tmp 73], argTypes := _ }, type := _, pos := _, after := _, guard := none }) rfl (fun KK hK => ?_) AllReadyH.nil)
                  go_simp
                  refine (comes_any (truT) (true) _).mono ?_
                  rintro e ws ⟨rfl, hxs⟩
                  have HS2 := Reg.ext hxs HS
                  clear hxs HS
                  have HS := HS2
                  clear HS2
                  refine hK.out _ _ HS (fun _ => ?_)
                  clear hK KK
                  try simp only [Act.put, List.setIfInBounds_toArray, List.set_cons_zero, List.set_cons_succ]
                  refine wpAnyH_take (i := 10) (oi := { dst := some 75, op := Op.extract (Operand.tmp 74) 0, type := _, pos := _, after := _, guard := none }) (v := .agg #[.int .i64 ((comP (truT) (true)).1).1, .int .i64 ((comP (truT) (true)).1).2]) rfl (by kernel_rfl) (by kernel_rfl) (by kernel_rfl) (fun _ _ _ h => h) (Or.inl ⟨by rfl, fun wx hx => by go_simp⟩) HS ?_
                  simp only [Act.put, List.setIfInBounds_toArray, List.set_cons_zero, List.set_cons_succ]
                  refine wpAnyH_take (i := 11) (oi := { dst := some 76, op := Op.extract (Operand.tmp 74) 1, type := _, pos := _, after := _, guard := none }) (v := .int .i64 ((comP (truT) (true)).2)) rfl (by kernel_rfl) (by kernel_rfl) (by kernel_rfl) (fun _ _ _ h => h) (Or.inl ⟨by rfl, fun wx hx => by go_simp⟩) HS ?_
                  simp only [Act.put, List.setIfInBounds_toArray, List.set_cons_zero, List.set_cons_succ]
                  refine wpAnyH_ready (rs := [12]) (by kernel_rfl) (by simp) (AllReadyH.cons (o := { dst := none, op := Op.store _ (Operand.tmp 6) (Operand.tmp 75), type := _, pos := _, after := _, guard := none }) rfl (fun KK hK => ?_) AllReadyH.nil)
                  obtain ⟨x, y, r0, r1, z0, z1⟩ := HS.res
                  have HF := hide (HS.fin (.int .i64 ((comP (truT) (true)).1).1) (.int .i64 ((comP (truT) (true)).1).2))
                  go_simp
                  refine hK.out _ _ (Reg.put HS (.int .i64 ((comP (truT) (true)).1).1) (.int .i64 ((comP (truT) (true)).1).2)) (fun _ => ?_)
                  have HS2 := Reg.put HS (.int .i64 ((comP (truT) (true)).1).1) (.int .i64 ((comP (truT) (true)).1).2)
                  clear hK KK HS
                  have HS := HS2
                  clear HS2
                  try simp only [Act.put, List.setIfInBounds_toArray, List.set_cons_zero, List.set_cons_succ]
                  refine wpAnyH_take (i := 13) (oi := { dst := some 7, op := Op.assign (Operand.tmp 76), type := _, pos := _, after := _, guard := none }) (v := .int .i64 ((comP (truT) (true)).2)) rfl (by kernel_rfl) (by kernel_rfl) (by kernel_rfl) (fun _ _ _ h => h) (Or.inl ⟨by rfl, fun wx hx => by go_simp⟩) HS ?_
                  simp only [Act.put, List.setIfInBounds_toArray, List.set_cons_zero, List.set_cons_succ]
                  refine wpAnyH_done (by kernel_rfl) ?_ _
                  refine NoPanic.normal ?_
                  go_wp2
                  obtain ⟨s0, s1⟩ := (unhide HF).1.two
                  exact bodyPost_ret (v := .tuple #[.agg #[.int .i64 ((comP (truT) (true)).1).1, .int .i64 ((comP (truT) (true)).1).2], .int .i64 (comP (truT) (true)).2]) (by simp [results, Try.results15, go_sem, s0, s1]) rfl ⟨rfl, (unhide HF).2⟩
                | false =>
                  rw [hp] at hU
                  rcases eqT_cases hp with p1 | ⟨p1, p2⟩ <;>
                  · clear hp
                    rw [Bool.and_false] at hU
                    subst hU
                    go_upto_region 19 with fail
                    refine wp_region_noPanic ?_
                    refine wp_region_held_drew (S := fun wx => Reg w [(w.heap.size, truT), (w.heap.size + 1, c)] (w.heap.size + 1 + 1) wx) (by kernel_rfl) ((unhide H1).drew) (fun HS => ?_)
                    refine wpAnyH_take (i := 1) (oi := { dst := some 66, op := Op.load _ (Operand.tmp 4), type := _, pos := _, after := _, guard := none }) (v := .agg #[.int .i64 (truT).1, .int .i64 (truT).2]) rfl (by kernel_rfl) (by kernel_rfl) (by kernel_rfl) (fun _ _ _ h => h) (Or.inl ⟨by rfl, fun wx hx => by obtain ⟨c0, c1⟩ := hx.at (w.heap.size) (truT) (by simp); go_simp⟩) HS ?_
                    simp only [Act.put, List.setIfInBounds_toArray, List.set_cons_zero, List.set_cons_succ]
                    refine wpAnyH_ready (rs := [0]) (by kernel_rfl) (by simp) (AllReadyH.cons (o := { dst := some 65, op := Op.call { callee := Callee.value (Operand.func _), args := #[], argTypes := _ }, type := _, pos := _, after := _, guard := none }) rfl (fun KK hK => ?_) AllReadyH.nil)
                    go_simp
                    refine (truth_any _).mono ?_
                    rintro e ws ⟨rfl, hxs⟩
                    have HS2 := Reg.ext hxs HS
                    clear hxs HS
                    have HS := HS2
                    clear HS2
                    refine hK.out _ _ HS (fun _ => ?_)
                    clear hK KK
                    try simp only [Act.put, List.setIfInBounds_toArray, List.set_cons_zero, List.set_cons_succ]
                    refine wpAnyH_ready (rs := [2]) (by kernel_rfl) (by simp) (AllReadyH.cons (o := { dst := some 67, op := Op.call { callee := Callee.value (Operand.func _), args := #[], argTypes := _ }, type := _, pos := _, after := _, guard := none }) rfl (fun KK hK => ?_) AllReadyH.nil)
                    go_simp
                    refine (truth_any _).mono ?_
                    rintro e ws ⟨rfl, hxs⟩
                    have HS2 := Reg.ext hxs HS
                    clear hxs HS
                    have HS := HS2
                    clear HS2
                    refine hK.out _ _ HS (fun _ => ?_)
                    clear hK KK
                    try simp only [Act.put, List.setIfInBounds_toArray, List.set_cons_zero, List.set_cons_succ]
                    refine wpAnyH_take (i := 3) (oi := { dst := some 68, op := Op.binOp BinOp.eql _ (Operand.tmp 66) (Operand.tmp 67) _, type := _, pos := _, after := _, guard := none }) (v := .bool (true)) rfl (by kernel_rfl) (by kernel_rfl) (by kernel_rfl) (fun _ _ _ h => h) (Or.inl ⟨by rfl, fun wx hx => by go_simp⟩) HS ?_
                    simp only [Act.put, List.setIfInBounds_toArray, List.set_cons_zero, List.set_cons_succ]
                    refine wpAnyH_take (i := 4) (oi := { dst := some 69, op := Op.move (Operand.tmp 68), type := _, pos := _, after := _, guard := none }) (v := .bool (true)) rfl (by kernel_rfl) (by kernel_rfl) (by kernel_rfl) (fun _ _ _ h => h) (Or.inl ⟨by rfl, fun wx hx => by go_simp⟩) HS ?_
                    simp only [Act.put, List.setIfInBounds_toArray, List.set_cons_zero, List.set_cons_succ]
                    refine wpAnyH_take (i := 5) (oi := { dst := some 70, op := Op.load _ (Operand.tmp 5), type := _, pos := _, after := _, guard := some (4, true) }) (v := .agg #[.int .i64 (c).1, .int .i64 (c).2]) rfl (by kernel_rfl) (by kernel_rfl) (by kernel_rfl) (fun _ _ _ h => h) (Or.inl ⟨by rfl, fun wx hx => by obtain ⟨c0, c1⟩ := hx.at (w.heap.size + 1) (c) (by simp); go_simp⟩) HS ?_
                    simp only [Act.put, List.setIfInBounds_toArray, List.set_cons_zero, List.set_cons_succ]
                    refine wpAnyH_ready (rs := [6]) (by kernel_rfl) (by simp) (AllReadyH.cons (o := { dst := some 71, op := Op.call { callee := Callee.value (Operand.func _), args := #[], argTypes := _ }, type := _, pos := _, after := _, guard := some (4, true) }) rfl (fun KK hK => ?_) AllReadyH.nil)
                    go_simp
                    refine (truth_any _).mono ?_
                    rintro e ws ⟨rfl, hxs⟩
                    have HS2 := Reg.ext hxs HS
                    clear hxs HS
                    have HS := HS2
                    clear HS2
                    refine hK.out _ _ HS (fun _ => ?_)
                    clear hK KK
                    try simp only [Act.put, List.setIfInBounds_toArray, List.set_cons_zero, List.set_cons_succ]
                    refine wpAnyH_take (i := 7) (oi := { dst := some 72, op := Op.binOp BinOp.eql _ (Operand.tmp 70) (Operand.tmp 71) _, type := _, pos := _, after := _, guard := some (4, true) }) (v := .bool (false)) rfl (by kernel_rfl) (by kernel_rfl) (by kernel_rfl) (fun _ _ _ h => h) (Or.inl ⟨by rfl, fun wx hx => by go_simp⟩) HS ?_
                    simp only [Act.put, List.setIfInBounds_toArray, List.set_cons_zero, List.set_cons_succ]
                    refine wpAnyH_take (i := 8) (oi := { dst := some 73, op := Op.pick (Operand.tmp 69) (Operand.tmp 72) (Operand.const (Value.bool false)), type := _, pos := _, after := _, guard := none }) (v := .bool (false)) rfl (by kernel_rfl) (by kernel_rfl) (by kernel_rfl) (fun _ _ _ h => h) (Or.inl ⟨by rfl, fun wx hx => by go_simp⟩) HS ?_
                    simp only [Act.put, List.setIfInBounds_toArray, List.set_cons_zero, List.set_cons_succ]
                    refine wpAnyH_ready (rs := [9]) (by kernel_rfl) (by simp) (AllReadyH.cons (o := { dst := some 74, op := Op.call { callee := Callee.value (Operand.func _), args := #[Operand.tmp 65, Operand.tmp 73], argTypes := _ }, type := _, pos := _, after := _, guard := none }) rfl (fun KK hK => ?_) AllReadyH.nil)
                    go_simp
                    refine (comes_any (truT) (false) _).mono ?_
                    rintro e ws ⟨rfl, hxs⟩
                    have HS2 := Reg.ext hxs HS
                    clear hxs HS
                    have HS := HS2
                    clear HS2
                    refine hK.out _ _ HS (fun _ => ?_)
                    clear hK KK
                    try simp only [Act.put, List.setIfInBounds_toArray, List.set_cons_zero, List.set_cons_succ]
                    refine wpAnyH_take (i := 10) (oi := { dst := some 75, op := Op.extract (Operand.tmp 74) 0, type := _, pos := _, after := _, guard := none }) (v := .agg #[.int .i64 ((comP (truT) (false)).1).1, .int .i64 ((comP (truT) (false)).1).2]) rfl (by kernel_rfl) (by kernel_rfl) (by kernel_rfl) (fun _ _ _ h => h) (Or.inl ⟨by rfl, fun wx hx => by go_simp⟩) HS ?_
                    simp only [Act.put, List.setIfInBounds_toArray, List.set_cons_zero, List.set_cons_succ]
                    refine wpAnyH_take (i := 11) (oi := { dst := some 76, op := Op.extract (Operand.tmp 74) 1, type := _, pos := _, after := _, guard := none }) (v := .int .i64 ((comP (truT) (false)).2)) rfl (by kernel_rfl) (by kernel_rfl) (by kernel_rfl) (fun _ _ _ h => h) (Or.inl ⟨by rfl, fun wx hx => by go_simp⟩) HS ?_
                    simp only [Act.put, List.setIfInBounds_toArray, List.set_cons_zero, List.set_cons_succ]
                    refine wpAnyH_ready (rs := [12]) (by kernel_rfl) (by simp) (AllReadyH.cons (o := { dst := none, op := Op.store _ (Operand.tmp 6) (Operand.tmp 75), type := _, pos := _, after := _, guard := none }) rfl (fun KK hK => ?_) AllReadyH.nil)
                    obtain ⟨x, y, r0, r1, z0, z1⟩ := HS.res
                    have HF := hide (HS.fin (.int .i64 ((comP (truT) (false)).1).1) (.int .i64 ((comP (truT) (false)).1).2))
                    go_simp
                    refine hK.out _ _ (Reg.put HS (.int .i64 ((comP (truT) (false)).1).1) (.int .i64 ((comP (truT) (false)).1).2)) (fun _ => ?_)
                    have HS2 := Reg.put HS (.int .i64 ((comP (truT) (false)).1).1) (.int .i64 ((comP (truT) (false)).1).2)
                    clear hK KK HS
                    have HS := HS2
                    clear HS2
                    try simp only [Act.put, List.setIfInBounds_toArray, List.set_cons_zero, List.set_cons_succ]
                    refine wpAnyH_take (i := 13) (oi := { dst := some 7, op := Op.assign (Operand.tmp 76), type := _, pos := _, after := _, guard := none }) (v := .int .i64 ((comP (truT) (false)).2)) rfl (by kernel_rfl) (by kernel_rfl) (by kernel_rfl) (fun _ _ _ h => h) (Or.inl ⟨by rfl, fun wx hx => by go_simp⟩) HS ?_
                    simp only [Act.put, List.setIfInBounds_toArray, List.set_cons_zero, List.set_cons_succ]
                    refine wpAnyH_done (by kernel_rfl) ?_ _
                    refine NoPanic.normal ?_
                    go_wp2
                    obtain ⟨s0, s1⟩ := (unhide HF).1.two
                    exact bodyPost_ret (v := .tuple #[.agg #[.int .i64 ((comP (truT) (false)).1).1, .int .i64 ((comP (truT) (false)).1).2], .int .i64 (comP (truT) (false)).2]) (by simp [results, Try.results15, go_sem, s0, s1]) rfl ⟨rfl, (unhide HF).2⟩
              | false =>
                rw [hq] at hU
                rcases eqT_cases hq with q1 | ⟨q1, q2⟩ <;>
                · clear hq
                  rw [Bool.false_and] at hU
                  subst hU
                  go_upto_region 19 with fail
                  refine wp_region_noPanic ?_
                  refine wp_region_held_drew (S := fun wx => Reg w [(w.heap.size, a), (w.heap.size + 1, c)] (w.heap.size + 1 + 1) wx) (by kernel_rfl) ((unhide H1).drew) (fun HS => ?_)
                  refine wpAnyH_take (i := 1) (oi := { dst := some 66, op := Op.load _ (Operand.tmp 4), type := _, pos := _, after := _, guard := none }) (v := .agg #[.int .i64 (a).1, .int .i64 (a).2]) rfl (by kernel_rfl) (by kernel_rfl) (by kernel_rfl) (fun _ _ _ h => h) (Or.inl ⟨by rfl, fun wx hx => by obtain ⟨c0, c1⟩ := hx.at (w.heap.size) (a) (by simp); go_simp⟩) HS ?_
                  simp only [Act.put, List.setIfInBounds_toArray, List.set_cons_zero, List.set_cons_succ]
                  refine wpAnyH_ready (rs := [0]) (by kernel_rfl) (by simp) (AllReadyH.cons (o := { dst := some 65, op := Op.call { callee := Callee.value (Operand.func _), args := #[], argTypes := _ }, type := _, pos := _, after := _, guard := none }) rfl (fun KK hK => ?_) AllReadyH.nil)
                  go_simp
                  refine (truth_any _).mono ?_
                  rintro e ws ⟨rfl, hxs⟩
                  have HS2 := Reg.ext hxs HS
                  clear hxs HS
                  have HS := HS2
                  clear HS2
                  refine hK.out _ _ HS (fun _ => ?_)
                  clear hK KK
                  try simp only [Act.put, List.setIfInBounds_toArray, List.set_cons_zero, List.set_cons_succ]
                  refine wpAnyH_ready (rs := [2]) (by kernel_rfl) (by simp) (AllReadyH.cons (o := { dst := some 67, op := Op.call { callee := Callee.value (Operand.func _), args := #[], argTypes := _ }, type := _, pos := _, after := _, guard := none }) rfl (fun KK hK => ?_) AllReadyH.nil)
                  go_simp
                  refine (truth_any _).mono ?_
                  rintro e ws ⟨rfl, hxs⟩
                  have HS2 := Reg.ext hxs HS
                  clear hxs HS
                  have HS := HS2
                  clear HS2
                  refine hK.out _ _ HS (fun _ => ?_)
                  clear hK KK
                  try simp only [Act.put, List.setIfInBounds_toArray, List.set_cons_zero, List.set_cons_succ]
                  refine wpAnyH_take (i := 3) (oi := { dst := some 68, op := Op.binOp BinOp.eql _ (Operand.tmp 66) (Operand.tmp 67) _, type := _, pos := _, after := _, guard := none }) (v := .bool (false)) rfl (by kernel_rfl) (by kernel_rfl) (by kernel_rfl) (fun _ _ _ h => h) (Or.inl ⟨by rfl, fun wx hx => by go_simp⟩) HS ?_
                  simp only [Act.put, List.setIfInBounds_toArray, List.set_cons_zero, List.set_cons_succ]
                  refine wpAnyH_take (i := 4) (oi := { dst := some 69, op := Op.move (Operand.tmp 68), type := _, pos := _, after := _, guard := none }) (v := .bool (false)) rfl (by kernel_rfl) (by kernel_rfl) (by kernel_rfl) (fun _ _ _ h => h) (Or.inl ⟨by rfl, fun wx hx => by go_simp⟩) HS ?_
                  simp only [Act.put, List.setIfInBounds_toArray, List.set_cons_zero, List.set_cons_succ]
                  refine wpAnyH_take (i := 5) (oi := { dst := some 70, op := Op.load _ (Operand.tmp 5), type := _, pos := _, after := _, guard := some (4, true) }) (v := undef) rfl (by kernel_rfl) (by kernel_rfl) (by kernel_rfl) (fun _ _ _ h => h) (Or.inr ⟨by rfl, rfl⟩) HS ?_
                  simp only [Act.put, List.setIfInBounds_toArray, List.set_cons_zero, List.set_cons_succ]
                  refine wpAnyH_take (i := 6) (oi := { dst := some 71, op := Op.call { callee := Callee.value (Operand.func _), args := #[], argTypes := _ }, type := _, pos := _, after := _, guard := some (4, true) }) (v := undef) rfl (by kernel_rfl) (by kernel_rfl) (by kernel_rfl) (fun _ _ _ h => h) (Or.inr ⟨by rfl, rfl⟩) HS ?_
                  simp only [Act.put, List.setIfInBounds_toArray, List.set_cons_zero, List.set_cons_succ]
                  refine wpAnyH_take (i := 7) (oi := { dst := some 72, op := Op.binOp BinOp.eql _ (Operand.tmp 70) (Operand.tmp 71) _, type := _, pos := _, after := _, guard := some (4, true) }) (v := undef) rfl (by kernel_rfl) (by kernel_rfl) (by kernel_rfl) (fun _ _ _ h => h) (Or.inr ⟨by rfl, rfl⟩) HS ?_
                  simp only [Act.put, List.setIfInBounds_toArray, List.set_cons_zero, List.set_cons_succ]
                  refine wpAnyH_take (i := 8) (oi := { dst := some 73, op := Op.pick (Operand.tmp 69) (Operand.tmp 72) (Operand.const (Value.bool false)), type := _, pos := _, after := _, guard := none }) (v := .bool (false)) rfl (by kernel_rfl) (by kernel_rfl) (by kernel_rfl) (fun _ _ _ h => h) (Or.inl ⟨by rfl, fun wx hx => by go_simp⟩) HS ?_
                  simp only [Act.put, List.setIfInBounds_toArray, List.set_cons_zero, List.set_cons_succ]
                  refine wpAnyH_ready (rs := [9]) (by kernel_rfl) (by simp) (AllReadyH.cons (o := { dst := some 74, op := Op.call { callee := Callee.value (Operand.func _), args := #[Operand.tmp 65, Operand.tmp 73], argTypes := _ }, type := _, pos := _, after := _, guard := none }) rfl (fun KK hK => ?_) AllReadyH.nil)
                  go_simp
                  refine (comes_any (truT) (false) _).mono ?_
                  rintro e ws ⟨rfl, hxs⟩
                  have HS2 := Reg.ext hxs HS
                  clear hxs HS
                  have HS := HS2
                  clear HS2
                  refine hK.out _ _ HS (fun _ => ?_)
                  clear hK KK
                  try simp only [Act.put, List.setIfInBounds_toArray, List.set_cons_zero, List.set_cons_succ]
                  refine wpAnyH_take (i := 10) (oi := { dst := some 75, op := Op.extract (Operand.tmp 74) 0, type := _, pos := _, after := _, guard := none }) (v := .agg #[.int .i64 ((comP (truT) (false)).1).1, .int .i64 ((comP (truT) (false)).1).2]) rfl (by kernel_rfl) (by kernel_rfl) (by kernel_rfl) (fun _ _ _ h => h) (Or.inl ⟨by rfl, fun wx hx => by go_simp⟩) HS ?_
                  simp only [Act.put, List.setIfInBounds_toArray, List.set_cons_zero, List.set_cons_succ]
                  refine wpAnyH_take (i := 11) (oi := { dst := some 76, op := Op.extract (Operand.tmp 74) 1, type := _, pos := _, after := _, guard := none }) (v := .int .i64 ((comP (truT) (false)).2)) rfl (by kernel_rfl) (by kernel_rfl) (by kernel_rfl) (fun _ _ _ h => h) (Or.inl ⟨by rfl, fun wx hx => by go_simp⟩) HS ?_
                  simp only [Act.put, List.setIfInBounds_toArray, List.set_cons_zero, List.set_cons_succ]
                  refine wpAnyH_ready (rs := [12]) (by kernel_rfl) (by simp) (AllReadyH.cons (o := { dst := none, op := Op.store _ (Operand.tmp 6) (Operand.tmp 75), type := _, pos := _, after := _, guard := none }) rfl (fun KK hK => ?_) AllReadyH.nil)
                  obtain ⟨x, y, r0, r1, z0, z1⟩ := HS.res
                  have HF := hide (HS.fin (.int .i64 ((comP (truT) (false)).1).1) (.int .i64 ((comP (truT) (false)).1).2))
                  go_simp
                  refine hK.out _ _ (Reg.put HS (.int .i64 ((comP (truT) (false)).1).1) (.int .i64 ((comP (truT) (false)).1).2)) (fun _ => ?_)
                  have HS2 := Reg.put HS (.int .i64 ((comP (truT) (false)).1).1) (.int .i64 ((comP (truT) (false)).1).2)
                  clear hK KK HS
                  have HS := HS2
                  clear HS2
                  try simp only [Act.put, List.setIfInBounds_toArray, List.set_cons_zero, List.set_cons_succ]
                  refine wpAnyH_take (i := 13) (oi := { dst := some 7, op := Op.assign (Operand.tmp 76), type := _, pos := _, after := _, guard := none }) (v := .int .i64 ((comP (truT) (false)).2)) rfl (by kernel_rfl) (by kernel_rfl) (by kernel_rfl) (fun _ _ _ h => h) (Or.inl ⟨by rfl, fun wx hx => by go_simp⟩) HS ?_
                  simp only [Act.put, List.setIfInBounds_toArray, List.set_cons_zero, List.set_cons_succ]
                  refine wpAnyH_done (by kernel_rfl) ?_ _
                  refine NoPanic.normal ?_
                  go_wp2
                  obtain ⟨s0, s1⟩ := (unhide HF).1.two
                  exact bodyPost_ret (v := .tuple #[.agg #[.int .i64 ((comP (truT) (false)).1).1, .int .i64 ((comP (truT) (false)).1).2], .int .i64 (comP (truT) (false)).2]) (by simp [results, Try.results15, go_sem, s0, s1]) rfl ⟨rfl, (unhide HF).2⟩
          · rw [if_neg (by simpa using h4)] at hU
            subst hU
            have f1 : ∀ x ∈ op1, (o == x) = false := fun x hx => beq_eq_false_iff_ne.2 (fun e => h1 (by subst e; exact hx))
            have g0 := f1 [43] (by decide)
            have g1 := f1 [45] (by decide)
            have g2 := f1 [42] (by decide)
            have g3 := f1 [47] (by decide)
            clear f1 h1
            have f2 : ∀ x ∈ op2, (o == x) = false := fun x hx => beq_eq_false_iff_ne.2 (fun e => h2 (by subst e; exact hx))
            have g4 := f2 [60] (by decide)
            have g5 := f2 [62] (by decide)
            have g6 := f2 [60, 61] (by decide)
            have g7 := f2 [62, 61] (by decide)
            clear f2 h2
            have f3 : ∀ x ∈ op3, (o == x) = false := fun x hx => beq_eq_false_iff_ne.2 (fun e => h3 (by subst e; exact hx))
            have g8 := f3 [61, 61] (by decide)
            have g9 := f3 [33, 61] (by decide)
            clear f3 h3
            have f4 : ∀ x ∈ op4, (o == x) = false := fun x hx => beq_eq_false_iff_ne.2 (fun e => h4 (by subst e; exact hx))
            have g10 := f4 [38, 38] (by decide)
            have g11 := f4 [124, 124] (by decide)
            clear f4 h4
            obtain ⟨x, y, r0, r1, z0, z1⟩ := (unhide H1).res
            have HF := hide ((unhide H1).fin (.int .i64 0) (.int .i64 0))
            go_wp2
            obtain ⟨s0, s1⟩ := (unhide HF).1.two
            exact bodyPost_ret (v := .tuple #[.agg #[.int .i64 (noT).1, .int .i64 (noT).2], .int .i64 4]) (by simp [results, Try.results15, go_sem, s0, s1, noT]) rfl ⟨rfl, (unhide HF).2⟩
end Go.Proofs.Ytokmplebajgckaa
