/-
  The document's assignments.
-/
import Derived.Test.YtokmplebajgckaaKR
import Derived.Test.YtokmplebajgckaaKE
import Derived.Test.YtokmplebajgckaaKUb
namespace Go.Proofs.Ytokmplebajgckaa
open Go.RowKit
set_option linter.unusedVariables false
set_option linter.unusedSimpArgs false

theorem sizeT : (Try.prog.info? 23).map (·.size) = some 2 := by kernel_rfl
section
variable {w0 w1 : World} {l : List (Nat × Ty)} {R b : Nat} {cs : Array Value}
theorem Reg.fresh (h : Reg w0 l R w1) : w0.heap.size ≤ w1.heap.size ∧ w1.heap.size ≠ R ∧ ∀ p ∈ l, p.1 ≠ w1.heap.size := by
  obtain ⟨h0, h1, ⟨x, y, h2⟩, h3, h4⟩ := h
  exact ⟨h0.size, Nat.ne_of_gt h2.lt, fun p hp => Nat.ne_of_lt (h1 p hp).lt⟩
theorem Reg.newrow (h : Reg w0 l R w1) (hb : Blk w1 b cs 23) (h5 : w0.heap.size ≤ b) (hne : b ≠ R) (hn : ∀ p ∈ l, p.1 ≠ b) (t : Ty) : Reg w0 ((b, t) :: l) R (w1.setRow b #[.int .i64 (t).1, .int .i64 (t).2]) := by
  obtain ⟨h0, h1, ⟨x, y, h2⟩, h3, h4⟩ := h
  refine ⟨below_setRow h0 h5 _, ?_, ⟨x, y, (setRow_other w1 b R _ (Ne.symm hne)).trans h2⟩, h3, ?_⟩
  · intro p hp
    rcases List.mem_cons.1 hp with rfl | hp
    · exact setRow_heap w1 b cs _ _ (0, 0) hb
    · exact (setRow_other w1 b p.1 _ (hn p hp)).trans (h1 p hp)
  · intro p hp
    rcases List.mem_cons.1 hp with rfl | hp
    · exact hne
    · exact h4 p hp
theorem Reg.tail {q : Nat × Ty} (h : Reg w0 (q :: l) R w1) : Reg w0 l R w1 := ⟨h.1, fun p hp => h.2.1 p (List.mem_cons_of_mem _ hp), h.2.2.1, h.2.2.2.1, fun p hp => h.2.2.2.2 p (List.mem_cons_of_mem _ hp)⟩
end

set_option maxHeartbeats 4000000 in
set_option maxRecDepth 100000 in
theorem refAssign_any (o : Byts8) (a c : Ty) (w : World) :
    Calls Try.prog 20 #[.string ⟨o.toArray⟩, .agg #[.int .i64 (a).1, .int .i64 (a).2], .agg #[.int .i64 (c).1, .int .i64 (c).2]] w fun e w' => e = .returned (.tuple #[.agg #[.int .i64 ((asgP o a c).1).1, .int .i64 ((asgP o a c).1).2], .int .i64 (asgP o a c).2]) ∧ Ext w w' := by
  have H0 := hide (reg2 w a c)
  have HM := hide refMay_any
  have HNU := hide refNumber_any
  have HVA := hide refValue_any
  have HTR := hide refTruth_any
  obtain ⟨U, hU⟩ : ∃ U, asgP o a c = U := ⟨_, rfl⟩
  rw [hU]
  unfold asgP at hU
  go_enter Try.func20, Try.ntmps20
  have HMx := hide (unhide HM a)
  cases hm0 : mayP a with
  | false =>
    rw [hm0] at HMx
    rw [if_pos (by simp [hm0])] at hU
    subst hU
    go_wp2_with fail
    refine (unhide HMx _).mono ?_
    rintro e wm ⟨rfl, hxm⟩
    have HS := Reg.ext hxm (unhide H0)
    clear hxm HMx 
    obtain ⟨c0, k0⟩ := HS.at (w.heap.size) (a) (by simp)
    obtain ⟨c1, k1⟩ := HS.at (w.heap.size + 1) (c) (by simp)
    obtain ⟨x, y, r0, r1, z0, z1⟩ := HS.res
    have HF := hide (HS.fin (.int .i64 0) (.int .i64 0))
    clear HS
    go_wp2
    obtain ⟨s0, s1⟩ := (unhide HF).1.two
    exact bodyPost_ret (v := .tuple #[.agg #[.int .i64 (noT).1, .int .i64 (noT).2], .int .i64 2]) (by simp [results, Try.results20, go_sem, s0, s1, noT]) rfl ⟨rfl, (unhide HF).2⟩
  | true =>
    rw [hm0] at HMx
    go_wp2_with fail
    refine (unhide HMx _).mono ?_
    rintro e wm0 ⟨rfl, hxm⟩
    have H1 := hide (Reg.ext hxm (unhide H0))
    clear hxm HMx H0
    obtain ⟨c0, k0⟩ := (unhide H1).at (w.heap.size) (a) (by simp)
    obtain ⟨c1, k1⟩ := (unhide H1).at (w.heap.size + 1) (c) (by simp)
    have HMx := hide (unhide HM c)
    cases hm1 : mayP c with
    | false =>
      rw [hm1] at HMx
      rw [if_pos (by simp [hm0, hm1])] at hU
      subst hU
      go_wp2_with fail
      refine (unhide HMx _).mono ?_
      rintro e wm ⟨rfl, hxm⟩
      have HS := Reg.ext hxm (unhide H1)
      clear hxm HMx c0 k0 c1 k1
      obtain ⟨c0, k0⟩ := HS.at (w.heap.size) (a) (by simp)
      obtain ⟨c1, k1⟩ := HS.at (w.heap.size + 1) (c) (by simp)
      obtain ⟨x, y, r0, r1, z0, z1⟩ := HS.res
      have HF := hide (HS.fin (.int .i64 0) (.int .i64 0))
      clear HS
      go_wp2
      obtain ⟨s0, s1⟩ := (unhide HF).1.two
      exact bodyPost_ret (v := .tuple #[.agg #[.int .i64 (noT).1, .int .i64 (noT).2], .int .i64 2]) (by simp [results, Try.results20, go_sem, s0, s1, noT]) rfl ⟨rfl, (unhide HF).2⟩
    | true =>
      rw [hm1] at HMx
      go_wp2_with fail
      refine (unhide HMx _).mono ?_
      rintro e wm1 ⟨rfl, hxm⟩
      have H2 := hide (Reg.ext hxm (unhide H1))
      clear hxm HMx H1
      clear c0 k0 c1 k1
      rw [if_neg (by simp [hm0, hm1])] at hU
      obtain ⟨c0, k0⟩ := (unhide H2).at (w.heap.size) (a) (by simp)
      obtain ⟨c1, k1⟩ := (unhide H2).at (w.heap.size + 1) (c) (by simp)
      by_cases e1 : o = [61]
      · subst e1
        rw [if_pos (by decide)] at hU
        have HV1 := hide (unhide HVA a)
        cases hn : valuP a with
        | false =>
          rw [hn, Bool.and_false] at hU
          subst hU
          rw [hn] at HV1
          go_wp2_with fail
          refine (unhide HV1 _).mono ?_
          rintro e w5 ⟨rfl, hxs⟩
          have H5 := hide (Reg.ext hxs (unhide H2))
          clear hxs c0 k0 c1 k1
          obtain ⟨c0, k0⟩ := (unhide H5).at (w.heap.size) (a) (by simp)
          obtain ⟨c1, k1⟩ := (unhide H5).at (w.heap.size + 1) (c) (by simp)
          have HS := unhide H5
          clear c0 k0 c1 k1 H5
          obtain ⟨c0, k0⟩ := HS.at (w.heap.size) (a) (by simp)
          obtain ⟨c1, k1⟩ := HS.at (w.heap.size + 1) (c) (by simp)
          obtain ⟨x, y, r0, r1, z0, z1⟩ := HS.res
          have HF := hide (HS.fin (.int .i64 0) (.int .i64 0))
          clear HS
          go_wp2
          obtain ⟨s0, s1⟩ := (unhide HF).1.two
          exact bodyPost_ret (v := .tuple #[.agg #[.int .i64 (noT).1, .int .i64 (noT).2], .int .i64 230]) (by simp [results, Try.results20, go_sem, s0, s1, noT]) rfl ⟨rfl, (unhide HF).2⟩
        | true =>
          rw [hn, Bool.and_true] at hU
          rw [hn] at HV1
          cases hq : eqT a c with
          | true =>
            rw [hq] at hU
            have eq := eqT_iff.1 hq
            subst eq
            have q1 : ((a).1 == (a).1) = true := by simp
            have q2 : ((a).2 == (a).2) = true := by simp
            subst hU
            go_wp2_with fail
            refine (unhide HV1 _).mono ?_
            rintro e w5 ⟨rfl, hxs⟩
            have H5 := hide (Reg.ext hxs (unhide H2))
            clear hxs c0 k0 c1 k1
            obtain ⟨c0, k0⟩ := (unhide H5).at (w.heap.size) (a) (by simp)
            obtain ⟨c1, k1⟩ := (unhide H5).at (w.heap.size + 1) (a) (by simp)
            have HS := unhide H5
            clear c0 k0 c1 k1 H5
            obtain ⟨c0, k0⟩ := HS.at (w.heap.size) (a) (by simp)
            obtain ⟨c1, k1⟩ := HS.at (w.heap.size + 1) (a) (by simp)
            obtain ⟨x, y, r0, r1, z0, z1⟩ := HS.res
            have HF := hide (HS.fin (.int .i64 (a).1) (.int .i64 (a).2))
            clear HS
            go_wp2
            obtain ⟨s0, s1⟩ := (unhide HF).1.two
            exact bodyPost_ret (v := .tuple #[.agg #[.int .i64 (a).1, .int .i64 (a).2], .int .i64 0]) (by simp [results, Try.results20, go_sem, s0, s1, noT]) rfl ⟨rfl, (unhide HF).2⟩
          | false =>
            rw [hq] at hU
            rcases eqT_cases hq with q1 | ⟨q1, q2⟩ <;>
            · clear hq
              subst hU
              go_wp2_with fail
              refine (unhide HV1 _).mono ?_
              rintro e w5 ⟨rfl, hxs⟩
              have H5 := hide (Reg.ext hxs (unhide H2))
              clear hxs c0 k0 c1 k1
              obtain ⟨c0, k0⟩ := (unhide H5).at (w.heap.size) (a) (by simp)
              obtain ⟨c1, k1⟩ := (unhide H5).at (w.heap.size + 1) (c) (by simp)
              have HS := unhide H5
              clear c0 k0 c1 k1 H5
              obtain ⟨c0, k0⟩ := HS.at (w.heap.size) (a) (by simp)
              obtain ⟨c1, k1⟩ := HS.at (w.heap.size + 1) (c) (by simp)
              obtain ⟨x, y, r0, r1, z0, z1⟩ := HS.res
              have HF := hide (HS.fin (.int .i64 0) (.int .i64 0))
              clear HS
              go_wp2
              obtain ⟨s0, s1⟩ := (unhide HF).1.two
              exact bodyPost_ret (v := .tuple #[.agg #[.int .i64 (noT).1, .int .i64 (noT).2], .int .i64 230]) (by simp [results, Try.results20, go_sem, s0, s1, noT]) rfl ⟨rfl, (unhide HF).2⟩
      · have f1 : (o == [61]) = false := beq_eq_false_iff_ne.2 e1
        rw [if_neg (by rw [f1]; decide)] at hU
        clear e1
        by_cases h5 : o ∈ op5
        · rw [if_pos (by simpa using h5)] at hU
          unfold op5 at h5
          simp only [List.mem_cons, List.not_mem_nil, or_false] at h5
          rcases h5 with rfl | rfl | rfl | rfl
          · clear f1
            have HBN := hide (refBinary_any [43] a c)
            rw [show binP [43] a c = comP (sumT a c) (togB a c) by unfold binP; rw [if_neg (by rw [hm0, hm1]; decide)]; rfl] at HBN
            have hK : (comP (sumT a c) (togB a c)).2 = 0 ∨ (comP (sumT a c) (togB a c)).2 = 230 := by
              unfold comP
              cases togB a c with
              | true => exact .inl rfl
              | false => exact .inr rfl
            have hU2 : U = comP a ((comP (sumT a c) (togB a c)).2 == 0 && eqT (comP (sumT a c) (togB a c)).1 a) := by
              rw [← hU]
              congr 1
              unfold comP
              cases togB a c with
              | true => rfl
              | false => rfl
            clear hU
            generalize comP (sumT a c) (togB a c) = T9 at *
            obtain ⟨T, er⟩ := T9
            dsimp only at HBN hK hU2
            have hU := hU2.symm
            clear hU2 c0 k0 c1 k1
            go_upto_region 9 with fail
            go_cut [8, 9] (fun p ev wc => ∃ r w3, w3 = wc ∧ p = .pointer (some ⟨r, 0, none⟩) ∧ ev = .int .i64 er ∧ Hid (Reg w [(r, T), (w.heap.size, a), (w.heap.size + 1, c)] (w.heap.size + 1 + 1) wc))
            case first =>
              refine wp_region_noPanic ?_
              refine wp_region_held_drew (S := fun wx => Reg w [(w.heap.size, a), (w.heap.size + 1, c)] (w.heap.size + 1 + 1) wx) (by kernel_rfl) ((unhide H2).drew) (fun HS => ?_)
              refine wpAnyH_take (i := 0) (oi := { dst := some 46, op := Op.move (Operand.tmp 0), type := _, pos := _, after := _, guard := none }) (v := .string ⟨#[43, 61]⟩) rfl (by kernel_rfl) (by kernel_rfl) (by kernel_rfl) (fun _ _ _ h => h) (Or.inl ⟨by rfl, fun wx hx => by go_simp⟩) HS ?_
              simp only [Act.put, List.setIfInBounds_toArray, List.set_cons_zero, List.set_cons_succ]
              refine wpAnyH_take (i := 1) (oi := { dst := some 47, op := Op.slice 9 (Operand.tmp 46) none (some (Operand.const (Value.int IntKind.i64 1))) none, type := _, pos := _, after := _, guard := none }) (v := .string ⟨#[43]⟩) rfl (by kernel_rfl) (by kernel_rfl) (by kernel_rfl) (fun _ _ _ h => h) (Or.inl ⟨by rfl, fun wx hx => by (go_simp; first | rfl | decide)⟩) HS ?_
              simp only [Act.put, List.setIfInBounds_toArray, List.set_cons_zero, List.set_cons_succ]
              refine wpAnyH_take (i := 2) (oi := { dst := some 48, op := Op.load _ (Operand.tmp 4), type := _, pos := _, after := _, guard := none }) (v := .agg #[.int .i64 (a).1, .int .i64 (a).2]) rfl (by kernel_rfl) (by kernel_rfl) (by kernel_rfl) (fun _ _ _ h => h) (Or.inl ⟨by rfl, fun wx hx => by obtain ⟨c0, c1⟩ := hx.at (w.heap.size) (a) (by simp); go_simp⟩) HS ?_
              simp only [Act.put, List.setIfInBounds_toArray, List.set_cons_zero, List.set_cons_succ]
              refine wpAnyH_take (i := 3) (oi := { dst := some 49, op := Op.load _ (Operand.tmp 5), type := _, pos := _, after := _, guard := none }) (v := .agg #[.int .i64 (c).1, .int .i64 (c).2]) rfl (by kernel_rfl) (by kernel_rfl) (by kernel_rfl) (fun _ _ _ h => h) (Or.inl ⟨by rfl, fun wx hx => by obtain ⟨c0, c1⟩ := hx.at (w.heap.size + 1) (c) (by simp); go_simp⟩) HS ?_
              simp only [Act.put, List.setIfInBounds_toArray, List.set_cons_zero, List.set_cons_succ]
              refine wpAnyH_ready (rs := [4, 8]) (by kernel_rfl) (by simp) (AllReadyH.cons (o := { dst := some 50, op := Op.call { callee := Callee.value (Operand.func _), args := #[Operand.tmp 47, Operand.tmp 48, Operand.tmp 49], argTypes := _ }, type := _, pos := _, after := _, guard := none }) rfl (fun KK hK => ?_) (AllReadyH.cons (o := { dst := some 8, op := Op.alloc _, type := _, pos := _, after := _, guard := none }) rfl (fun KK hK => ?_) AllReadyH.nil))
              · go_simp
                refine (unhide HBN _).mono ?_
                rintro e ws ⟨rfl, hxs⟩
                have HS2 := Reg.ext hxs HS
                clear hxs HS
                have HS := HS2
                clear HS2
                refine hK.out _ _ HS (fun _ => ?_)
                clear hK KK
                try simp only [Act.put, List.setIfInBounds_toArray, List.set_cons_zero, List.set_cons_succ]
                refine wpAnyH_take (i := 5) (oi := { dst := some 45, op := Op.move (Operand.tmp 50), type := _, pos := _, after := _, guard := none }) (v := .tuple #[.agg #[.int .i64 (T).1, .int .i64 (T).2], .int .i64 (er)]) rfl (by kernel_rfl) (by kernel_rfl) (by kernel_rfl) (fun _ _ _ h => h) (Or.inl ⟨by rfl, fun wx hx => by go_simp⟩) HS ?_
                simp only [Act.put, List.setIfInBounds_toArray, List.set_cons_zero, List.set_cons_succ]
                refine wpAnyH_take (i := 6) (oi := { dst := some 51, op := Op.extract (Operand.tmp 45) 0, type := _, pos := _, after := _, guard := none }) (v := .agg #[.int .i64 (T).1, .int .i64 (T).2]) rfl (by kernel_rfl) (by kernel_rfl) (by kernel_rfl) (fun _ _ _ h => h) (Or.inl ⟨by rfl, fun wx hx => by go_simp⟩) HS ?_
                simp only [Act.put, List.setIfInBounds_toArray, List.set_cons_zero, List.set_cons_succ]
                refine wpAnyH_take (i := 7) (oi := { dst := some 52, op := Op.extract (Operand.tmp 45) 1, type := _, pos := _, after := _, guard := none }) (v := .int .i64 (er)) rfl (by kernel_rfl) (by kernel_rfl) (by kernel_rfl) (fun _ _ _ h => h) (Or.inl ⟨by rfl, fun wx hx => by go_simp⟩) HS ?_
                simp only [Act.put, List.setIfInBounds_toArray, List.set_cons_zero, List.set_cons_succ]
                refine wpAnyH_ready (rs := [8]) (by kernel_rfl) (by simp) (AllReadyH.cons (o := { dst := some 8, op := Op.alloc _, type := _, pos := _, after := _, guard := none }) rfl (fun KK hK => ?_) AllReadyH.nil)
                refine Eq.mpr (if_pos (by rfl)) ?_
                go_simp
                refine hK.out _ (ws.alloc (.cells #[.int .i64 0, .int .i64 0] 23)) (Reg.ext ((Ext.refl _).alloc _) HS) (fun _ => ?_)
                clear hK KK
                have FR := hide (Reg.fresh (w1 := ws) HS)
                have RB : Hid (Blk (ws.alloc (.cells #[.int .i64 0, .int .i64 0] 23)) ws.heap.size #[.int .i64 0, .int .i64 0] 23) := Blk.new ws #[.int .i64 0, .int .i64 0] 23
                have HS2 := Reg.ext ((Ext.refl _).alloc (.cells #[.int .i64 0, .int .i64 0] 23)) HS
                clear HS
                have HS := HS2
                clear HS2
                generalize ws.alloc (.cells #[.int .i64 0, .int .i64 0] 23) = wa at HS RB ⊢
                try simp only [Act.put, List.setIfInBounds_toArray, List.set_cons_zero, List.set_cons_succ]
                refine wpAnyH_ready (rs := [9]) (by kernel_rfl) (by simp) (AllReadyH.cons (o := { dst := none, op := Op.store _ (Operand.tmp 8) (Operand.tmp 51), type := _, pos := _, after := _, guard := none }) rfl (fun KK hK => ?_) AllReadyH.nil)
                refine Eq.mpr (if_pos (by rfl)) ?_
                refine wp_store_row 23 (.tmp 8) (.tmp 51) rfl _ #[.int .i64 (T).1, .int .i64 (T).2] rfl rfl 23 _ (unhide RB) sizeT rfl (by simp [Value.oneCell']) ?_
                have NR := hide (Reg.newrow HS (unhide RB) (unhide FR).1 (unhide FR).2.1 (unhide FR).2.2 T)
                refine hK.out _ _ (Reg.tail (unhide NR)) (fun _ => ?_)
                have HS2 := Reg.tail (unhide NR)
                clear hK KK HS
                have HS := HS2
                clear HS2
                try simp only [Act.put, List.setIfInBounds_toArray, List.set_cons_zero, List.set_cons_succ]
                refine wpAnyH_take (i := 10) (oi := { dst := some 9, op := Op.assign (Operand.tmp 52), type := _, pos := _, after := _, guard := none }) (v := .int .i64 (er)) rfl (by kernel_rfl) (by kernel_rfl) (by kernel_rfl) (fun _ _ _ h => h) (Or.inl ⟨by rfl, fun wx hx => by go_simp⟩) HS ?_
                simp only [Act.put, List.setIfInBounds_toArray, List.set_cons_zero, List.set_cons_succ]
                refine wpAnyH_done (by kernel_rfl) ?_ _
                refine NoPanic.normal ?_
                go_wp2
                go_meet
                exact ⟨_, _, rfl, rfl, rfl, NR⟩
              · refine Eq.mpr (if_pos (by rfl)) ?_
                go_simp
                refine hK.out _ (wm1.drew.alloc (.cells #[.int .i64 0, .int .i64 0] 23)) (Reg.ext ((Ext.refl _).alloc _) HS) (fun _ => ?_)
                clear hK KK
                have FR := hide (Reg.fresh (w1 := wm1) (unhide H2))
                have RB : Hid (Blk (wm1.drew.alloc (.cells #[.int .i64 0, .int .i64 0] 23)) wm1.heap.size #[.int .i64 0, .int .i64 0] 23) := Blk.new wm1.drew #[.int .i64 0, .int .i64 0] 23
                have HS2 := Reg.ext ((Ext.refl _).alloc (.cells #[.int .i64 0, .int .i64 0] 23)) HS
                clear HS
                have HS := HS2
                clear HS2
                generalize wm1.drew.alloc (.cells #[.int .i64 0, .int .i64 0] 23) = wa at HS RB ⊢
                try simp only [Act.put, List.setIfInBounds_toArray, List.set_cons_zero, List.set_cons_succ]
                refine wpAnyH_ready (rs := [4]) (by kernel_rfl) (by simp) (AllReadyH.cons (o := { dst := some 50, op := Op.call { callee := Callee.value (Operand.func _), args := #[Operand.tmp 47, Operand.tmp 48, Operand.tmp 49], argTypes := _ }, type := _, pos := _, after := _, guard := none }) rfl (fun KK hK => ?_) AllReadyH.nil)
                go_simp
                refine (unhide HBN _).mono ?_
                rintro e ws ⟨rfl, hxs⟩
                have RB2 := hide ((unhide RB).ext hxs)
                clear RB
                have RB := RB2
                clear RB2
                have HS2 := Reg.ext hxs HS
                clear hxs HS
                have HS := HS2
                clear HS2
                refine hK.out _ _ HS (fun _ => ?_)
                clear hK KK
                try simp only [Act.put, List.setIfInBounds_toArray, List.set_cons_zero, List.set_cons_succ]
                refine wpAnyH_take (i := 5) (oi := { dst := some 45, op := Op.move (Operand.tmp 50), type := _, pos := _, after := _, guard := none }) (v := .tuple #[.agg #[.int .i64 (T).1, .int .i64 (T).2], .int .i64 (er)]) rfl (by kernel_rfl) (by kernel_rfl) (by kernel_rfl) (fun _ _ _ h => h) (Or.inl ⟨by rfl, fun wx hx => by go_simp⟩) HS ?_
                simp only [Act.put, List.setIfInBounds_toArray, List.set_cons_zero, List.set_cons_succ]
                refine wpAnyH_take (i := 6) (oi := { dst := some 51, op := Op.extract (Operand.tmp 45) 0, type := _, pos := _, after := _, guard := none }) (v := .agg #[.int .i64 (T).1, .int .i64 (T).2]) rfl (by kernel_rfl) (by kernel_rfl) (by kernel_rfl) (fun _ _ _ h => h) (Or.inl ⟨by rfl, fun wx hx => by go_simp⟩) HS ?_
                simp only [Act.put, List.setIfInBounds_toArray, List.set_cons_zero, List.set_cons_succ]
                refine wpAnyH_take (i := 7) (oi := { dst := some 52, op := Op.extract (Operand.tmp 45) 1, type := _, pos := _, after := _, guard := none }) (v := .int .i64 (er)) rfl (by kernel_rfl) (by kernel_rfl) (by kernel_rfl) (fun _ _ _ h => h) (Or.inl ⟨by rfl, fun wx hx => by go_simp⟩) HS ?_
                simp only [Act.put, List.setIfInBounds_toArray, List.set_cons_zero, List.set_cons_succ]
                refine wpAnyH_ready (rs := [9]) (by kernel_rfl) (by simp) (AllReadyH.cons (o := { dst := none, op := Op.store _ (Operand.tmp 8) (Operand.tmp 51), type := _, pos := _, after := _, guard := none }) rfl (fun KK hK => ?_) AllReadyH.nil)
                refine Eq.mpr (if_pos (by rfl)) ?_
                refine wp_store_row 23 (.tmp 8) (.tmp 51) rfl _ #[.int .i64 (T).1, .int .i64 (T).2] rfl rfl 23 _ (unhide RB) sizeT rfl (by simp [Value.oneCell']) ?_
                have NR := hide (Reg.newrow HS (unhide RB) (unhide FR).1 (unhide FR).2.1 (unhide FR).2.2 T)
                refine hK.out _ _ (Reg.tail (unhide NR)) (fun _ => ?_)
                have HS2 := Reg.tail (unhide NR)
                clear hK KK HS
                have HS := HS2
                clear HS2
                try simp only [Act.put, List.setIfInBounds_toArray, List.set_cons_zero, List.set_cons_succ]
                refine wpAnyH_take (i := 10) (oi := { dst := some 9, op := Op.assign (Operand.tmp 52), type := _, pos := _, after := _, guard := none }) (v := .int .i64 (er)) rfl (by kernel_rfl) (by kernel_rfl) (by kernel_rfl) (fun _ _ _ h => h) (Or.inl ⟨by rfl, fun wx hx => by go_simp⟩) HS ?_
                simp only [Act.put, List.setIfInBounds_toArray, List.set_cons_zero, List.set_cons_succ]
                refine wpAnyH_done (by kernel_rfl) ?_ _
                refine NoPanic.normal ?_
                go_wp2
                go_meet
                exact ⟨_, _, rfl, rfl, rfl, NR⟩
            case rest =>
            obtain ⟨r, w3, rfl, rfl, rfl, H3⟩ := hcut
            clear H2 HBN
            rcases hK with rfl | rfl
            · rw [show ((0 : Int) == 0) = true from rfl, Bool.true_and] at hU
              cases hq : eqT T a with
              | true =>
                rw [hq] at hU
                have eq := eqT_iff.1 hq
                subst eq
                subst hU
                have q1 : (T.1 == T.1) = true := by simp
                have q2 : (T.2 == T.2) = true := by simp
                have HS := unhide H3
                clear H3
                obtain ⟨c0, k0⟩ := HS.at (r) (T) (by simp)
                obtain ⟨c1, k1⟩ := HS.at (w.heap.size) (T) (by simp)
                obtain ⟨c2, k2⟩ := HS.at (w.heap.size + 1) (c) (by simp)
                obtain ⟨x, y, r0, r1, z0, z1⟩ := HS.res
                have HF := hide (HS.fin (.int .i64 (T).1) (.int .i64 (T).2))
                clear HS
                go_wp2
                obtain ⟨s0, s1⟩ := (unhide HF).1.two
                exact bodyPost_ret (v := .tuple #[.agg #[.int .i64 (T).1, .int .i64 (T).2], .int .i64 0]) (by simp [results, Try.results20, go_sem, s0, s1, noT]) rfl ⟨rfl, (unhide HF).2⟩
              | false =>
                rw [hq] at hU
                subst hU
                rcases eqT_cases hq with q1 | ⟨q1, q2⟩ <;>
                · clear hq
                  have HS := unhide H3
                  clear H3
                  obtain ⟨c0, k0⟩ := HS.at (r) (T) (by simp)
                  obtain ⟨c1, k1⟩ := HS.at (w.heap.size) (a) (by simp)
                  obtain ⟨c2, k2⟩ := HS.at (w.heap.size + 1) (c) (by simp)
                  obtain ⟨x, y, r0, r1, z0, z1⟩ := HS.res
                  have HF := hide (HS.fin (.int .i64 0) (.int .i64 0))
                  clear HS
                  go_wp2
                  obtain ⟨s0, s1⟩ := (unhide HF).1.two
                  exact bodyPost_ret (v := .tuple #[.agg #[.int .i64 (noT).1, .int .i64 (noT).2], .int .i64 230]) (by simp [results, Try.results20, go_sem, s0, s1, noT]) rfl ⟨rfl, (unhide HF).2⟩
            · rw [show ((230 : Int) == 0) = false from rfl, Bool.false_and] at hU
              subst hU
              have HS := unhide H3
              clear H3
              obtain ⟨c0, k0⟩ := HS.at (r) (T) (by simp)
              obtain ⟨c1, k1⟩ := HS.at (w.heap.size) (a) (by simp)
              obtain ⟨c2, k2⟩ := HS.at (w.heap.size + 1) (c) (by simp)
              obtain ⟨x, y, r0, r1, z0, z1⟩ := HS.res
              have HF := hide (HS.fin (.int .i64 0) (.int .i64 0))
              clear HS
              go_wp2
              obtain ⟨s0, s1⟩ := (unhide HF).1.two
              exact bodyPost_ret (v := .tuple #[.agg #[.int .i64 (noT).1, .int .i64 (noT).2], .int .i64 230]) (by simp [results, Try.results20, go_sem, s0, s1, noT]) rfl ⟨rfl, (unhide HF).2⟩
          · clear f1
            have HBN := hide (refBinary_any [45] a c)
            rw [show binP [45] a c = comP (sumT a c) (togB a c) by unfold binP; rw [if_neg (by rw [hm0, hm1]; decide)]; rfl] at HBN
            have hK : (comP (sumT a c) (togB a c)).2 = 0 ∨ (comP (sumT a c) (togB a c)).2 = 230 := by
              unfold comP
              cases togB a c with
              | true => exact .inl rfl
              | false => exact .inr rfl
            have hU2 : U = comP a ((comP (sumT a c) (togB a c)).2 == 0 && eqT (comP (sumT a c) (togB a c)).1 a) := by
              rw [← hU]
              congr 1
              unfold comP
              cases togB a c with
              | true => rfl
              | false => rfl
            clear hU
            generalize comP (sumT a c) (togB a c) = T9 at *
            obtain ⟨T, er⟩ := T9
            dsimp only at HBN hK hU2
            have hU := hU2.symm
            clear hU2 c0 k0 c1 k1
            go_upto_region 9 with fail
            go_cut [8, 9] (fun p ev wc => ∃ r w3, w3 = wc ∧ p = .pointer (some ⟨r, 0, none⟩) ∧ ev = .int .i64 er ∧ Hid (Reg w [(r, T), (w.heap.size, a), (w.heap.size + 1, c)] (w.heap.size + 1 + 1) wc))
            case first =>
              refine wp_region_noPanic ?_
              refine wp_region_held_drew (S := fun wx => Reg w [(w.heap.size, a), (w.heap.size + 1, c)] (w.heap.size + 1 + 1) wx) (by kernel_rfl) ((unhide H2).drew) (fun HS => ?_)
              refine wpAnyH_take (i := 0) (oi := { dst := some 46, op := Op.move (Operand.tmp 0), type := _, pos := _, after := _, guard := none }) (v := .string ⟨#[45, 61]⟩) rfl (by kernel_rfl) (by kernel_rfl) (by kernel_rfl) (fun _ _ _ h => h) (Or.inl ⟨by rfl, fun wx hx => by go_simp⟩) HS ?_
              simp only [Act.put, List.setIfInBounds_toArray, List.set_cons_zero, List.set_cons_succ]
              refine wpAnyH_take (i := 1) (oi := { dst := some 47, op := Op.slice 9 (Operand.tmp 46) none (some (Operand.const (Value.int IntKind.i64 1))) none, type := _, pos := _, after := _, guard := none }) (v := .string ⟨#[45]⟩) rfl (by kernel_rfl) (by kernel_rfl) (by kernel_rfl) (fun _ _ _ h => h) (Or.inl ⟨by rfl, fun wx hx => by (go_simp; first | rfl | decide)⟩) HS ?_
              simp only [Act.put, List.setIfInBounds_toArray, List.set_cons_zero, List.set_cons_succ]
              refine wpAnyH_take (i := 2) (oi := { dst := some 48, op := Op.load _ (Operand.tmp 4), type := _, pos := _, after := _, guard := none }) (v := .agg #[.int .i64 (a).1, .int .i64 (a).2]) rfl (by kernel_rfl) (by kernel_rfl) (by kernel_rfl) (fun _ _ _ h => h) (Or.inl ⟨by rfl, fun wx hx => by obtain ⟨c0, c1⟩ := hx.at (w.heap.size) (a) (by simp); go_simp⟩) HS ?_
              simp only [Act.put, List.setIfInBounds_toArray, List.set_cons_zero, List.set_cons_succ]
              refine wpAnyH_take (i := 3) (oi := { dst := some 49, op := Op.load _ (Operand.tmp 5), type := _, pos := _, after := _, guard := none }) (v := .agg #[.int .i64 (c).1, .int .i64 (c).2]) rfl (by kernel_rfl) (by kernel_rfl) (by kernel_rfl) (fun _ _ _ h => h) (Or.inl ⟨by rfl, fun wx hx => by obtain ⟨c0, c1⟩ := hx.at (w.heap.size + 1) (c) (by simp); go_simp⟩) HS ?_
              simp only [Act.put, List.setIfInBounds_toArray, List.set_cons_zero, List.set_cons_succ]
              refine wpAnyH_ready (rs := [4, 8]) (by kernel_rfl) (by simp) (AllReadyH.cons (o := { dst := some 50, op := Op.call { callee := Callee.value (Operand.func _), args := #[Operand.tmp 47, Operand.tmp 48, Operand.tmp 49], argTypes := _ }, type := _, pos := _, after := _, guard := none }) rfl (fun KK hK => ?_) (AllReadyH.cons (o := { dst := some 8, op := Op.alloc _, type := _, pos := _, after := _, guard := none }) rfl (fun KK hK => ?_) AllReadyH.nil))
              · go_simp
                refine (unhide HBN _).mono ?_
                rintro e ws ⟨rfl, hxs⟩
                have HS2 := Reg.ext hxs HS
                clear hxs HS
                have HS := HS2
                clear HS2
                refine hK.out _ _ HS (fun _ => ?_)
                clear hK KK
                try simp only [Act.put, List.setIfInBounds_toArray, List.set_cons_zero, List.set_cons_succ]
                refine wpAnyH_take (i := 5) (oi := { dst := some 45, op := Op.move (Operand.tmp 50), type := _, pos := _, after := _, guard := none }) (v := .tuple #[.agg #[.int .i64 (T).1, .int .i64 (T).2], .int .i64 (er)]) rfl (by kernel_rfl) (by kernel_rfl) (by kernel_rfl) (fun _ _ _ h => h) (Or.inl ⟨by rfl, fun wx hx => by go_simp⟩) HS ?_
                simp only [Act.put, List.setIfInBounds_toArray, List.set_cons_zero, List.set_cons_succ]
                refine wpAnyH_take (i := 6) (oi := { dst := some 51, op := Op.extract (Operand.tmp 45) 0, type := _, pos := _, after := _, guard := none }) (v := .agg #[.int .i64 (T).1, .int .i64 (T).2]) rfl (by kernel_rfl) (by kernel_rfl) (by kernel_rfl) (fun _ _ _ h => h) (Or.inl ⟨by rfl, fun wx hx => by go_simp⟩) HS ?_
                simp only [Act.put, List.setIfInBounds_toArray, List.set_cons_zero, List.set_cons_succ]
                refine wpAnyH_take (i := 7) (oi := { dst := some 52, op := Op.extract (Operand.tmp 45) 1, type := _, pos := _, after := _, guard := none }) (v := .int .i64 (er)) rfl (by kernel_rfl) (by kernel_rfl) (by kernel_rfl) (fun _ _ _ h => h) (Or.inl ⟨by rfl, fun wx hx => by go_simp⟩) HS ?_
                simp only [Act.put, List.setIfInBounds_toArray, List.set_cons_zero, List.set_cons_succ]
                refine wpAnyH_ready (rs := [8]) (by kernel_rfl) (by simp) (AllReadyH.cons (o := { dst := some 8, op := Op.alloc _, type := _, pos := _, after := _, guard := none }) rfl (fun KK hK => ?_) AllReadyH.nil)
                refine Eq.mpr (if_pos (by rfl)) ?_
                go_simp
                refine hK.out _ (ws.alloc (.cells #[.int .i64 0, .int .i64 0] 23)) (Reg.ext ((Ext.refl _).alloc _) HS) (fun _ => ?_)
                clear hK KK
                have FR := hide (Reg.fresh (w1 := ws) HS)
                have RB : Hid (Blk (ws.alloc (.cells #[.int .i64 0, .int .i64 0] 23)) ws.heap.size #[.int .i64 0, .int .i64 0] 23) := Blk.new ws #[.int .i64 0, .int .i64 0] 23
                have HS2 := Reg.ext ((Ext.refl _).alloc (.cells #[.int .i64 0, .int .i64 0] 23)) HS
                clear HS
                have HS := HS2
                clear HS2
                generalize ws.alloc (.cells #[.int .i64 0, .int .i64 0] 23) = wa at HS RB ⊢
                try simp only [Act.put, List.setIfInBounds_toArray, List.set_cons_zero, List.set_cons_succ]
                refine wpAnyH_ready (rs := [9]) (by kernel_rfl) (by simp) (AllReadyH.cons (o := { dst := none, op := Op.store _ (Operand.tmp 8) (Operand.tmp 51), type := _, pos := _, after := _, guard := none }) rfl (fun KK hK => ?_) AllReadyH.nil)
                refine Eq.mpr (if_pos (by rfl)) ?_
                refine wp_store_row 23 (.tmp 8) (.tmp 51) rfl _ #[.int .i64 (T).1, .int .i64 (T).2] rfl rfl 23 _ (unhide RB) sizeT rfl (by simp [Value.oneCell']) ?_
                have NR := hide (Reg.newrow HS (unhide RB) (unhide FR).1 (unhide FR).2.1 (unhide FR).2.2 T)
                refine hK.out _ _ (Reg.tail (unhide NR)) (fun _ => ?_)
                have HS2 := Reg.tail (unhide NR)
                clear hK KK HS
                have HS := HS2
                clear HS2
                try simp only [Act.put, List.setIfInBounds_toArray, List.set_cons_zero, List.set_cons_succ]
                refine wpAnyH_take (i := 10) (oi := { dst := some 9, op := Op.assign (Operand.tmp 52), type := _, pos := _, after := _, guard := none }) (v := .int .i64 (er)) rfl (by kernel_rfl) (by kernel_rfl) (by kernel_rfl) (fun _ _ _ h => h) (Or.inl ⟨by rfl, fun wx hx => by go_simp⟩) HS ?_
                simp only [Act.put, List.setIfInBounds_toArray, List.set_cons_zero, List.set_cons_succ]
                refine wpAnyH_done (by kernel_rfl) ?_ _
                refine NoPanic.normal ?_
                go_wp2
                go_meet
                exact ⟨_, _, rfl, rfl, rfl, NR⟩
              · refine Eq.mpr (if_pos (by rfl)) ?_
                go_simp
                refine hK.out _ (wm1.drew.alloc (.cells #[.int .i64 0, .int .i64 0] 23)) (Reg.ext ((Ext.refl _).alloc _) HS) (fun _ => ?_)
                clear hK KK
                have FR := hide (Reg.fresh (w1 := wm1) (unhide H2))
                have RB : Hid (Blk (wm1.drew.alloc (.cells #[.int .i64 0, .int .i64 0] 23)) wm1.heap.size #[.int .i64 0, .int .i64 0] 23) := Blk.new wm1.drew #[.int .i64 0, .int .i64 0] 23
                have HS2 := Reg.ext ((Ext.refl _).alloc (.cells #[.int .i64 0, .int .i64 0] 23)) HS
                clear HS
                have HS := HS2
                clear HS2
                generalize wm1.drew.alloc (.cells #[.int .i64 0, .int .i64 0] 23) = wa at HS RB ⊢
                try simp only [Act.put, List.setIfInBounds_toArray, List.set_cons_zero, List.set_cons_succ]
                refine wpAnyH_ready (rs := [4]) (by kernel_rfl) (by simp) (AllReadyH.cons (o := { dst := some 50, op := Op.call { callee := Callee.value (Operand.func _), args := #[Operand.tmp 47, Operand.tmp 48, Operand.tmp 49], argTypes := _ }, type := _, pos := _, after := _, guard := none }) rfl (fun KK hK => ?_) AllReadyH.nil)
                go_simp
                refine (unhide HBN _).mono ?_
                rintro e ws ⟨rfl, hxs⟩
                have RB2 := hide ((unhide RB).ext hxs)
                clear RB
                have RB := RB2
                clear RB2
                have HS2 := Reg.ext hxs HS
                clear hxs HS
                have HS := HS2
                clear HS2
                refine hK.out _ _ HS (fun _ => ?_)
                clear hK KK
                try simp only [Act.put, List.setIfInBounds_toArray, List.set_cons_zero, List.set_cons_succ]
                refine wpAnyH_take (i := 5) (oi := { dst := some 45, op := Op.move (Operand.tmp 50), type := _, pos := _, after := _, guard := none }) (v := .tuple #[.agg #[.int .i64 (T).1, .int .i64 (T).2], .int .i64 (er)]) rfl (by kernel_rfl) (by kernel_rfl) (by kernel_rfl) (fun _ _ _ h => h) (Or.inl ⟨by rfl, fun wx hx => by go_simp⟩) HS ?_
                simp only [Act.put, List.setIfInBounds_toArray, List.set_cons_zero, List.set_cons_succ]
                refine wpAnyH_take (i := 6) (oi := { dst := some 51, op := Op.extract (Operand.tmp 45) 0, type := _, pos := _, after := _, guard := none }) (v := .agg #[.int .i64 (T).1, .int .i64 (T).2]) rfl (by kernel_rfl) (by kernel_rfl) (by kernel_rfl) (fun _ _ _ h => h) (Or.inl ⟨by rfl, fun wx hx => by go_simp⟩) HS ?_
                simp only [Act.put, List.setIfInBounds_toArray, List.set_cons_zero, List.set_cons_succ]
                refine wpAnyH_take (i := 7) (oi := { dst := some 52, op := Op.extract (Operand.tmp 45) 1, type := _, pos := _, after := _, guard := none }) (v := .int .i64 (er)) rfl (by kernel_rfl) (by kernel_rfl) (by kernel_rfl) (fun _ _ _ h => h) (Or.inl ⟨by rfl, fun wx hx => by go_simp⟩) HS ?_
                simp only [Act.put, List.setIfInBounds_toArray, List.set_cons_zero, List.set_cons_succ]
                refine wpAnyH_ready (rs := [9]) (by kernel_rfl) (by simp) (AllReadyH.cons (o := { dst := none, op := Op.store _ (Operand.tmp 8) (Operand.tmp 51), type := _, pos := _, after := _, guard := none }) rfl (fun KK hK => ?_) AllReadyH.nil)
                refine Eq.mpr (if_pos (by rfl)) ?_
                refine wp_store_row 23 (.tmp 8) (.tmp 51) rfl _ #[.int .i64 (T).1, .int .i64 (T).2] rfl rfl 23 _ (unhide RB) sizeT rfl (by simp [Value.oneCell']) ?_
                have NR := hide (Reg.newrow HS (unhide RB) (unhide FR).1 (unhide FR).2.1 (unhide FR).2.2 T)
                refine hK.out _ _ (Reg.tail (unhide NR)) (fun _ => ?_)
                have HS2 := Reg.tail (unhide NR)
                clear hK KK HS
                have HS := HS2
                clear HS2
                try simp only [Act.put, List.setIfInBounds_toArray, List.set_cons_zero, List.set_cons_succ]
                refine wpAnyH_take (i := 10) (oi := { dst := some 9, op := Op.assign (Operand.tmp 52), type := _, pos := _, after := _, guard := none }) (v := .int .i64 (er)) rfl (by kernel_rfl) (by kernel_rfl) (by kernel_rfl) (fun _ _ _ h => h) (Or.inl ⟨by rfl, fun wx hx => by go_simp⟩) HS ?_
                simp only [Act.put, List.setIfInBounds_toArray, List.set_cons_zero, List.set_cons_succ]
                refine wpAnyH_done (by kernel_rfl) ?_ _
                refine NoPanic.normal ?_
                go_wp2
                go_meet
                exact ⟨_, _, rfl, rfl, rfl, NR⟩
            case rest =>
            obtain ⟨r, w3, rfl, rfl, rfl, H3⟩ := hcut
            clear H2 HBN
            rcases hK with rfl | rfl
            · rw [show ((0 : Int) == 0) = true from rfl, Bool.true_and] at hU
              cases hq : eqT T a with
              | true =>
                rw [hq] at hU
                have eq := eqT_iff.1 hq
                subst eq
                subst hU
                have q1 : (T.1 == T.1) = true := by simp
                have q2 : (T.2 == T.2) = true := by simp
                have HS := unhide H3
                clear H3
                obtain ⟨c0, k0⟩ := HS.at (r) (T) (by simp)
                obtain ⟨c1, k1⟩ := HS.at (w.heap.size) (T) (by simp)
                obtain ⟨c2, k2⟩ := HS.at (w.heap.size + 1) (c) (by simp)
                obtain ⟨x, y, r0, r1, z0, z1⟩ := HS.res
                have HF := hide (HS.fin (.int .i64 (T).1) (.int .i64 (T).2))
                clear HS
                go_wp2
                obtain ⟨s0, s1⟩ := (unhide HF).1.two
                exact bodyPost_ret (v := .tuple #[.agg #[.int .i64 (T).1, .int .i64 (T).2], .int .i64 0]) (by simp [results, Try.results20, go_sem, s0, s1, noT]) rfl ⟨rfl, (unhide HF).2⟩
              | false =>
                rw [hq] at hU
                subst hU
                rcases eqT_cases hq with q1 | ⟨q1, q2⟩ <;>
                · clear hq
                  have HS := unhide H3
                  clear H3
                  obtain ⟨c0, k0⟩ := HS.at (r) (T) (by simp)
                  obtain ⟨c1, k1⟩ := HS.at (w.heap.size) (a) (by simp)
                  obtain ⟨c2, k2⟩ := HS.at (w.heap.size + 1) (c) (by simp)
                  obtain ⟨x, y, r0, r1, z0, z1⟩ := HS.res
                  have HF := hide (HS.fin (.int .i64 0) (.int .i64 0))
                  clear HS
                  go_wp2
                  obtain ⟨s0, s1⟩ := (unhide HF).1.two
                  exact bodyPost_ret (v := .tuple #[.agg #[.int .i64 (noT).1, .int .i64 (noT).2], .int .i64 230]) (by simp [results, Try.results20, go_sem, s0, s1, noT]) rfl ⟨rfl, (unhide HF).2⟩
            · rw [show ((230 : Int) == 0) = false from rfl, Bool.false_and] at hU
              subst hU
              have HS := unhide H3
              clear H3
              obtain ⟨c0, k0⟩ := HS.at (r) (T) (by simp)
              obtain ⟨c1, k1⟩ := HS.at (w.heap.size) (a) (by simp)
              obtain ⟨c2, k2⟩ := HS.at (w.heap.size + 1) (c) (by simp)
              obtain ⟨x, y, r0, r1, z0, z1⟩ := HS.res
              have HF := hide (HS.fin (.int .i64 0) (.int .i64 0))
              clear HS
              go_wp2
              obtain ⟨s0, s1⟩ := (unhide HF).1.two
              exact bodyPost_ret (v := .tuple #[.agg #[.int .i64 (noT).1, .int .i64 (noT).2], .int .i64 230]) (by simp [results, Try.results20, go_sem, s0, s1, noT]) rfl ⟨rfl, (unhide HF).2⟩
          · clear f1
            have HBN := hide (refBinary_any [42] a c)
            rw [show binP [42] a c = comP (sumT a c) (togB a c) by unfold binP; rw [if_neg (by rw [hm0, hm1]; decide)]; rfl] at HBN
            have hK : (comP (sumT a c) (togB a c)).2 = 0 ∨ (comP (sumT a c) (togB a c)).2 = 230 := by
              unfold comP
              cases togB a c with
              | true => exact .inl rfl
              | false => exact .inr rfl
            have hU2 : U = comP a ((comP (sumT a c) (togB a c)).2 == 0 && eqT (comP (sumT a c) (togB a c)).1 a) := by
              rw [← hU]
              congr 1
              unfold comP
              cases togB a c with
              | true => rfl
              | false => rfl
            clear hU
            generalize comP (sumT a c) (togB a c) = T9 at *
            obtain ⟨T, er⟩ := T9
            dsimp only at HBN hK hU2
            have hU := hU2.symm
            clear hU2 c0 k0 c1 k1
            go_upto_region 9 with fail
            go_cut [8, 9] (fun p ev wc => ∃ r w3, w3 = wc ∧ p = .pointer (some ⟨r, 0, none⟩) ∧ ev = .int .i64 er ∧ Hid (Reg w [(r, T), (w.heap.size, a), (w.heap.size + 1, c)] (w.heap.size + 1 + 1) wc))
            case first =>
              refine wp_region_noPanic ?_
              refine wp_region_held_drew (S := fun wx => Reg w [(w.heap.size, a), (w.heap.size + 1, c)] (w.heap.size + 1 + 1) wx) (by kernel_rfl) ((unhide H2).drew) (fun HS => ?_)
              refine wpAnyH_take (i := 0) (oi := { dst := some 46, op := Op.move (Operand.tmp 0), type := _, pos := _, after := _, guard := none }) (v := .string ⟨#[42, 61]⟩) rfl (by kernel_rfl) (by kernel_rfl) (by kernel_rfl) (fun _ _ _ h => h) (Or.inl ⟨by rfl, fun wx hx => by go_simp⟩) HS ?_
              simp only [Act.put, List.setIfInBounds_toArray, List.set_cons_zero, List.set_cons_succ]
              refine wpAnyH_take (i := 1) (oi := { dst := some 47, op := Op.slice 9 (Operand.tmp 46) none (some (Operand.const (Value.int IntKind.i64 1))) none, type := _, pos := _, after := _, guard := none }) (v := .string ⟨#[42]⟩) rfl (by kernel_rfl) (by kernel_rfl) (by kernel_rfl) (fun _ _ _ h => h) (Or.inl ⟨by rfl, fun wx hx => by (go_simp; first | rfl | decide)⟩) HS ?_
              simp only [Act.put, List.setIfInBounds_toArray, List.set_cons_zero, List.set_cons_succ]
              refine wpAnyH_take (i := 2) (oi := { dst := some 48, op := Op.load _ (Operand.tmp 4), type := _, pos := _, after := _, guard := none }) (v := .agg #[.int .i64 (a).1, .int .i64 (a).2]) rfl (by kernel_rfl) (by kernel_rfl) (by kernel_rfl) (fun _ _ _ h => h) (Or.inl ⟨by rfl, fun wx hx => by obtain ⟨c0, c1⟩ := hx.at (w.heap.size) (a) (by simp); go_simp⟩) HS ?_
              simp only [Act.put, List.setIfInBounds_toArray, List.set_cons_zero, List.set_cons_succ]
              refine wpAnyH_take (i := 3) (oi := { dst := some 49, op := Op.load _ (Operand.tmp 5), type := _, pos := _, after := _, guard := none }) (v := .agg #[.int .i64 (c).1, .int .i64 (c).2]) rfl (by kernel_rfl) (by kernel_rfl) (by kernel_rfl) (fun _ _ _ h => h) (Or.inl ⟨by rfl, fun wx hx => by obtain ⟨c0, c1⟩ := hx.at (w.heap.size + 1) (c) (by simp); go_simp⟩) HS ?_
              simp only [Act.put, List.setIfInBounds_toArray, List.set_cons_zero, List.set_cons_succ]
              refine wpAnyH_ready (rs := [4, 8]) (by kernel_rfl) (by simp) (AllReadyH.cons (o := { dst := some 50, op := Op.call { callee := Callee.value (Operand.func _), args := #[Operand.tmp 47, Operand.tmp 48, Operand.tmp 49], argTypes := _ }, type := _, pos := _, after := _, guard := none }) rfl (fun KK hK => ?_) (AllReadyH.cons (o := { dst := some 8, op := Op.alloc _, type := _, pos := _, after := _, guard := none }) rfl (fun KK hK => ?_) AllReadyH.nil))
              · go_simp
                refine (unhide HBN _).mono ?_
                rintro e ws ⟨rfl, hxs⟩
                have HS2 := Reg.ext hxs HS
                clear hxs HS
                have HS := HS2
                clear HS2
                refine hK.out _ _ HS (fun _ => ?_)
                clear hK KK
                try simp only [Act.put, List.setIfInBounds_toArray, List.set_cons_zero, List.set_cons_succ]
                refine wpAnyH_take (i := 5) (oi := { dst := some 45, op := Op.move (Operand.tmp 50), type := _, pos := _, after := _, guard := none }) (v := .tuple #[.agg #[.int .i64 (T).1, .int .i64 (T).2], .int .i64 (er)]) rfl (by kernel_rfl) (by kernel_rfl) (by kernel_rfl) (fun _ _ _ h => h) (Or.inl ⟨by rfl, fun wx hx => by go_simp⟩) HS ?_
                simp only [Act.put, List.setIfInBounds_toArray, List.set_cons_zero, List.set_cons_succ]
                refine wpAnyH_take (i := 6) (oi := { dst := some 51, op := Op.extract (Operand.tmp 45) 0, type := _, pos := _, after := _, guard := none }) (v := .agg #[.int .i64 (T).1, .int .i64 (T).2]) rfl (by kernel_rfl) (by kernel_rfl) (by kernel_rfl) (fun _ _ _ h => h) (Or.inl ⟨by rfl, fun wx hx => by go_simp⟩) HS ?_
                simp only [Act.put, List.setIfInBounds_toArray, List.set_cons_zero, List.set_cons_succ]
                refine wpAnyH_take (i := 7) (oi := { dst := some 52, op := Op.extract (Operand.tmp 45) 1, type := _, pos := _, after := _, guard := none }) (v := .int .i64 (er)) rfl (by kernel_rfl) (by kernel_rfl) (by kernel_rfl) (fun _ _ _ h => h) (Or.inl ⟨by rfl, fun wx hx => by go_simp⟩) HS ?_
                simp only [Act.put, List.setIfInBounds_toArray, List.set_cons_zero, List.set_cons_succ]
                refine wpAnyH_ready (rs := [8]) (by kernel_rfl) (by simp) (AllReadyH.cons (o := { dst := some 8, op := Op.alloc _, type := _, pos := _, after := _, guard := none }) rfl (fun KK hK => ?_) AllReadyH.nil)
                refine Eq.mpr (if_pos (by rfl)) ?_
                go_simp
                refine hK.out _ (ws.alloc (.cells #[.int .i64 0, .int .i64 0] 23)) (Reg.ext ((Ext.refl _).alloc _) HS) (fun _ => ?_)
                clear hK KK
                have FR := hide (Reg.fresh (w1 := ws) HS)
                have RB : Hid (Blk (ws.alloc (.cells #[.int .i64 0, .int .i64 0] 23)) ws.heap.size #[.int .i64 0, .int .i64 0] 23) := Blk.new ws #[.int .i64 0, .int .i64 0] 23
                have HS2 := Reg.ext ((Ext.refl _).alloc (.cells #[.int .i64 0, .int .i64 0] 23)) HS
                clear HS
                have HS := HS2
                clear HS2
                generalize ws.alloc (.cells #[.int .i64 0, .int .i64 0] 23) = wa at HS RB ⊢
                try simp only [Act.put, List.setIfInBounds_toArray, List.set_cons_zero, List.set_cons_succ]
                refine wpAnyH_ready (rs := [9]) (by kernel_rfl) (by simp) (AllReadyH.cons (o := { dst := none, op := Op.store _ (Operand.tmp 8) (Operand.tmp 51), type := _, pos := _, after := _, guard := none }) rfl (fun KK hK => ?_) AllReadyH.nil)
                refine Eq.mpr (if_pos (by rfl)) ?_
                refine wp_store_row 23 (.tmp 8) (.tmp 51) rfl _ #[.int .i64 (T).1, .int .i64 (T).2] rfl rfl 23 _ (unhide RB) sizeT rfl (by simp [Value.oneCell']) ?_
                have NR := hide (Reg.newrow HS (unhide RB) (unhide FR).1 (unhide FR).2.1 (unhide FR).2.2 T)
                refine hK.out _ _ (Reg.tail (unhide NR)) (fun _ => ?_)
                have HS2 := Reg.tail (unhide NR)
                clear hK KK HS
                have HS := HS2
                clear HS2
                try simp only [Act.put, List.setIfInBounds_toArray, List.set_cons_zero, List.set_cons_succ]
                refine wpAnyH_take (i := 10) (oi := { dst := some 9, op := Op.assign (Operand.tmp 52), type := _, pos := _, after := _, guard := none }) (v := .int .i64 (er)) rfl (by kernel_rfl) (by kernel_rfl) (by kernel_rfl) (fun _ _ _ h => h) (Or.inl ⟨by rfl, fun wx hx => by go_simp⟩) HS ?_
                simp only [Act.put, List.setIfInBounds_toArray, List.set_cons_zero, List.set_cons_succ]
                refine wpAnyH_done (by kernel_rfl) ?_ _
                refine NoPanic.normal ?_
                go_wp2
                go_meet
                exact ⟨_, _, rfl, rfl, rfl, NR⟩
              · refine Eq.mpr (if_pos (by rfl)) ?_
                go_simp
                refine hK.out _ (wm1.drew.alloc (.cells #[.int .i64 0, .int .i64 0] 23)) (Reg.ext ((Ext.refl _).alloc _) HS) (fun _ => ?_)
                clear hK KK
                have FR := hide (Reg.fresh (w1 := wm1) (unhide H2))
                have RB : Hid (Blk (wm1.drew.alloc (.cells #[.int .i64 0, .int .i64 0] 23)) wm1.heap.size #[.int .i64 0, .int .i64 0] 23) := Blk.new wm1.drew #[.int .i64 0, .int .i64 0] 23
                have HS2 := Reg.ext ((Ext.refl _).alloc (.cells #[.int .i64 0, .int .i64 0] 23)) HS
                clear HS
                have HS := HS2
                clear HS2
                generalize wm1.drew.alloc (.cells #[.int .i64 0, .int .i64 0] 23) = wa at HS RB ⊢
                try simp only [Act.put, List.setIfInBounds_toArray, List.set_cons_zero, List.set_cons_succ]
                refine wpAnyH_ready (rs := [4]) (by kernel_rfl) (by simp) (AllReadyH.cons (o := { dst := some 50, op := Op.call { callee := Callee.value (Operand.func _), args := #[Operand.tmp 47, Operand.tmp 48, Operand.tmp 49], argTypes := _ }, type := _, pos := _, after := _, guard := none }) rfl (fun KK hK => ?_) AllReadyH.nil)
                go_simp
                refine (unhide HBN _).mono ?_
                rintro e ws ⟨rfl, hxs⟩
                have RB2 := hide ((unhide RB).ext hxs)
                clear RB
                have RB := RB2
                clear RB2
                have HS2 := Reg.ext hxs HS
                clear hxs HS
                have HS := HS2
                clear HS2
                refine hK.out _ _ HS (fun _ => ?_)
                clear hK KK
                try simp only [Act.put, List.setIfInBounds_toArray, List.set_cons_zero, List.set_cons_succ]
                refine wpAnyH_take (i := 5) (oi := { dst := some 45, op := Op.move (Operand.tmp 50), type := _, pos := _, after := _, guard := none }) (v := .tuple #[.agg #[.int .i64 (T).1, .int .i64 (T).2], .int .i64 (er)]) rfl (by kernel_rfl) (by kernel_rfl) (by kernel_rfl) (fun _ _ _ h => h) (Or.inl ⟨by rfl, fun wx hx => by go_simp⟩) HS ?_
                simp only [Act.put, List.setIfInBounds_toArray, List.set_cons_zero, List.set_cons_succ]
                refine wpAnyH_take (i := 6) (oi := { dst := some 51, op := Op.extract (Operand.tmp 45) 0, type := _, pos := _, after := _, guard := none }) (v := .agg #[.int .i64 (T).1, .int .i64 (T).2]) rfl (by kernel_rfl) (by kernel_rfl) (by kernel_rfl) (fun _ _ _ h => h) (Or.inl ⟨by rfl, fun wx hx => by go_simp⟩) HS ?_
                simp only [Act.put, List.setIfInBounds_toArray, List.set_cons_zero, List.set_cons_succ]
                refine wpAnyH_take (i := 7) (oi := { dst := some 52, op := Op.extract (Operand.tmp 45) 1, type := _, pos := _, after := _, guard := none }) (v := .int .i64 (er)) rfl (by kernel_rfl) (by kernel_rfl) (by kernel_rfl) (fun _ _ _ h => h) (Or.inl ⟨by rfl, fun wx hx => by go_simp⟩) HS ?_
                simp only [Act.put, List.setIfInBounds_toArray, List.set_cons_zero, List.set_cons_succ]
                refine wpAnyH_ready (rs := [9]) (by kernel_rfl) (by simp) (AllReadyH.cons (o := { dst := none, op := Op.store _ (Operand.tmp 8) (Operand.tmp 51), type := _, pos := _, after := _, guard := none }) rfl (fun KK hK => ?_) AllReadyH.nil)
                refine Eq.mpr (if_pos (by rfl)) ?_
                refine wp_store_row 23 (.tmp 8) (.tmp 51) rfl _ #[.int .i64 (T).1, .int .i64 (T).2] rfl rfl 23 _ (unhide RB) sizeT rfl (by simp [Value.oneCell']) ?_
                have NR := hide (Reg.newrow HS (unhide RB) (unhide FR).1 (unhide FR).2.1 (unhide FR).2.2 T)
                refine hK.out _ _ (Reg.tail (unhide NR)) (fun _ => ?_)
                have HS2 := Reg.tail (unhide NR)
                clear hK KK HS
                have HS := HS2
                clear HS2
                try simp only [Act.put, List.setIfInBounds_toArray, List.set_cons_zero, List.set_cons_succ]
                refine wpAnyH_take (i := 10) (oi := { dst := some 9, op := Op.assign (Operand.tmp 52), type := _, pos := _, after := _, guard := none }) (v := .int .i64 (er)) rfl (by kernel_rfl) (by kernel_rfl) (by kernel_rfl) (fun _ _ _ h => h) (Or.inl ⟨by rfl, fun wx hx => by go_simp⟩) HS ?_
                simp only [Act.put, List.setIfInBounds_toArray, List.set_cons_zero, List.set_cons_succ]
                refine wpAnyH_done (by kernel_rfl) ?_ _
                refine NoPanic.normal ?_
                go_wp2
                go_meet
                exact ⟨_, _, rfl, rfl, rfl, NR⟩
            case rest =>
            obtain ⟨r, w3, rfl, rfl, rfl, H3⟩ := hcut
            clear H2 HBN
            rcases hK with rfl | rfl
            · rw [show ((0 : Int) == 0) = true from rfl, Bool.true_and] at hU
              cases hq : eqT T a with
              | true =>
                rw [hq] at hU
                have eq := eqT_iff.1 hq
                subst eq
                subst hU
                have q1 : (T.1 == T.1) = true := by simp
                have q2 : (T.2 == T.2) = true := by simp
                have HS := unhide H3
                clear H3
                obtain ⟨c0, k0⟩ := HS.at (r) (T) (by simp)
                obtain ⟨c1, k1⟩ := HS.at (w.heap.size) (T) (by simp)
                obtain ⟨c2, k2⟩ := HS.at (w.heap.size + 1) (c) (by simp)
                obtain ⟨x, y, r0, r1, z0, z1⟩ := HS.res
                have HF := hide (HS.fin (.int .i64 (T).1) (.int .i64 (T).2))
                clear HS
                go_wp2
                obtain ⟨s0, s1⟩ := (unhide HF).1.two
                exact bodyPost_ret (v := .tuple #[.agg #[.int .i64 (T).1, .int .i64 (T).2], .int .i64 0]) (by simp [results, Try.results20, go_sem, s0, s1, noT]) rfl ⟨rfl, (unhide HF).2⟩
              | false =>
                rw [hq] at hU
                subst hU
                rcases eqT_cases hq with q1 | ⟨q1, q2⟩ <;>
                · clear hq
                  have HS := unhide H3
                  clear H3
                  obtain ⟨c0, k0⟩ := HS.at (r) (T) (by simp)
                  obtain ⟨c1, k1⟩ := HS.at (w.heap.size) (a) (by simp)
                  obtain ⟨c2, k2⟩ := HS.at (w.heap.size + 1) (c) (by simp)
                  obtain ⟨x, y, r0, r1, z0, z1⟩ := HS.res
                  have HF := hide (HS.fin (.int .i64 0) (.int .i64 0))
                  clear HS
                  go_wp2
                  obtain ⟨s0, s1⟩ := (unhide HF).1.two
                  exact bodyPost_ret (v := .tuple #[.agg #[.int .i64 (noT).1, .int .i64 (noT).2], .int .i64 230]) (by simp [results, Try.results20, go_sem, s0, s1, noT]) rfl ⟨rfl, (unhide HF).2⟩
            · rw [show ((230 : Int) == 0) = false from rfl, Bool.false_and] at hU
              subst hU
              have HS := unhide H3
              clear H3
              obtain ⟨c0, k0⟩ := HS.at (r) (T) (by simp)
              obtain ⟨c1, k1⟩ := HS.at (w.heap.size) (a) (by simp)
              obtain ⟨c2, k2⟩ := HS.at (w.heap.size + 1) (c) (by simp)
              obtain ⟨x, y, r0, r1, z0, z1⟩ := HS.res
              have HF := hide (HS.fin (.int .i64 0) (.int .i64 0))
              clear HS
              go_wp2
              obtain ⟨s0, s1⟩ := (unhide HF).1.two
              exact bodyPost_ret (v := .tuple #[.agg #[.int .i64 (noT).1, .int .i64 (noT).2], .int .i64 230]) (by simp [results, Try.results20, go_sem, s0, s1, noT]) rfl ⟨rfl, (unhide HF).2⟩
          · clear f1
            have HBN := hide (refBinary_any [47] a c)
            rw [show binP [47] a c = comP (sumT a c) (togB a c) by unfold binP; rw [if_neg (by rw [hm0, hm1]; decide)]; rfl] at HBN
            have hK : (comP (sumT a c) (togB a c)).2 = 0 ∨ (comP (sumT a c) (togB a c)).2 = 230 := by
              unfold comP
              cases togB a c with
              | true => exact .inl rfl
              | false => exact .inr rfl
            have hU2 : U = comP a ((comP (sumT a c) (togB a c)).2 == 0 && eqT (comP (sumT a c) (togB a c)).1 a) := by
              rw [← hU]
              congr 1
              unfold comP
              cases togB a c with
              | true => rfl
              | false => rfl
            clear hU
            generalize comP (sumT a c) (togB a c) = T9 at *
            obtain ⟨T, er⟩ := T9
            dsimp only at HBN hK hU2
            have hU := hU2.symm
            clear hU2 c0 k0 c1 k1
            go_upto_region 9 with fail
            go_cut [8, 9] (fun p ev wc => ∃ r w3, w3 = wc ∧ p = .pointer (some ⟨r, 0, none⟩) ∧ ev = .int .i64 er ∧ Hid (Reg w [(r, T), (w.heap.size, a), (w.heap.size + 1, c)] (w.heap.size + 1 + 1) wc))
            case first =>
              refine wp_region_noPanic ?_
              refine wp_region_held_drew (S := fun wx => Reg w [(w.heap.size, a), (w.heap.size + 1, c)] (w.heap.size + 1 + 1) wx) (by kernel_rfl) ((unhide H2).drew) (fun HS => ?_)
              refine wpAnyH_take (i := 0) (oi := { dst := some 46, op := Op.move (Operand.tmp 0), type := _, pos := _, after := _, guard := none }) (v := .string ⟨#[47, 61]⟩) rfl (by kernel_rfl) (by kernel_rfl) (by kernel_rfl) (fun _ _ _ h => h) (Or.inl ⟨by rfl, fun wx hx => by go_simp⟩) HS ?_
              simp only [Act.put, List.setIfInBounds_toArray, List.set_cons_zero, List.set_cons_succ]
              refine wpAnyH_take (i := 1) (oi := { dst := some 47, op := Op.slice 9 (Operand.tmp 46) none (some (Operand.const (Value.int IntKind.i64 1))) none, type := _, pos := _, after := _, guard := none }) (v := .string ⟨#[47]⟩) rfl (by kernel_rfl) (by kernel_rfl) (by kernel_rfl) (fun _ _ _ h => h) (Or.inl ⟨by rfl, fun wx hx => by (go_simp; first | rfl | decide)⟩) HS ?_
              simp only [Act.put, List.setIfInBounds_toArray, List.set_cons_zero, List.set_cons_succ]
              refine wpAnyH_take (i := 2) (oi := { dst := some 48, op := Op.load _ (Operand.tmp 4), type := _, pos := _, after := _, guard := none }) (v := .agg #[.int .i64 (a).1, .int .i64 (a).2]) rfl (by kernel_rfl) (by kernel_rfl) (by kernel_rfl) (fun _ _ _ h => h) (Or.inl ⟨by rfl, fun wx hx => by obtain ⟨c0, c1⟩ := hx.at (w.heap.size) (a) (by simp); go_simp⟩) HS ?_
              simp only [Act.put, List.setIfInBounds_toArray, List.set_cons_zero, List.set_cons_succ]
              refine wpAnyH_take (i := 3) (oi := { dst := some 49, op := Op.load _ (Operand.tmp 5), type := _, pos := _, after := _, guard := none }) (v := .agg #[.int .i64 (c).1, .int .i64 (c).2]) rfl (by kernel_rfl) (by kernel_rfl) (by kernel_rfl) (fun _ _ _ h => h) (Or.inl ⟨by rfl, fun wx hx => by obtain ⟨c0, c1⟩ := hx.at (w.heap.size + 1) (c) (by simp); go_simp⟩) HS ?_
              simp only [Act.put, List.setIfInBounds_toArray, List.set_cons_zero, List.set_cons_succ]
              refine wpAnyH_ready (rs := [4, 8]) (by kernel_rfl) (by simp) (AllReadyH.cons (o := { dst := some 50, op := Op.call { callee := Callee.value (Operand.func _), args := #[Operand.tmp 47, Operand.tmp 48, Operand.tmp 49], argTypes := _ }, type := _, pos := _, after := _, guard := none }) rfl (fun KK hK => ?_) (AllReadyH.cons (o := { dst := some 8, op := Op.alloc _, type := _, pos := _, after := _, guard := none }) rfl (fun KK hK => ?_) AllReadyH.nil))
              · go_simp
                refine (unhide HBN _).mono ?_
                rintro e ws ⟨rfl, hxs⟩
                have HS2 := Reg.ext hxs HS
                clear hxs HS
                have HS := HS2
                clear HS2
                refine hK.out _ _ HS (fun _ => ?_)
                clear hK KK
                try simp only [Act.put, List.setIfInBounds_toArray, List.set_cons_zero, List.set_cons_succ]
                refine wpAnyH_take (i := 5) (oi := { dst := some 45, op := Op.move (Operand.tmp 50), type := _, pos := _, after := _, guard := none }) (v := .tuple #[.agg #[.int .i64 (T).1, .int .i64 (T).2], .int .i64 (er)]) rfl (by kernel_rfl) (by kernel_rfl) (by kernel_rfl) (fun _ _ _ h => h) (Or.inl ⟨by rfl, fun wx hx => by go_simp⟩) HS ?_
                simp only [Act.put, List.setIfInBounds_toArray, List.set_cons_zero, List.set_cons_succ]
                refine wpAnyH_take (i := 6) (oi := { dst := some 51, op := Op.extract (Operand.tmp 45) 0, type := _, pos := _, after := _, guard := none }) (v := .agg #[.int .i64 (T).1, .int .i64 (T).2]) rfl (by kernel_rfl) (by kernel_rfl) (by kernel_rfl) (fun _ _ _ h => h) (Or.inl ⟨by rfl, fun wx hx => by go_simp⟩) HS ?_
                simp only [Act.put, List.setIfInBounds_toArray, List.set_cons_zero, List.set_cons_succ]
                refine wpAnyH_take (i := 7) (oi := { dst := some 52, op := Op.extract (Operand.tmp 45) 1, type := _, pos := _, after := _, guard := none }) (v := .int .i64 (er)) rfl (by kernel_rfl) (by kernel_rfl) (by kernel_rfl) (fun _ _ _ h => h) (Or.inl ⟨by rfl, fun wx hx => by go_simp⟩) HS ?_
                simp only [Act.put, List.setIfInBounds_toArray, List.set_cons_zero, List.set_cons_succ]
                refine wpAnyH_ready (rs := [8]) (by kernel_rfl) (by simp) (AllReadyH.cons (o := { dst := some 8, op := Op.alloc _, type := _, pos := _, after := _, guard := none }) rfl (fun KK hK => ?_) AllReadyH.nil)
                refine Eq.mpr (if_pos (by rfl)) ?_
                go_simp
                refine hK.out _ (ws.alloc (.cells #[.int .i64 0, .int .i64 0] 23)) (Reg.ext ((Ext.refl _).alloc _) HS) (fun _ => ?_)
                clear hK KK
                have FR := hide (Reg.fresh (w1 := ws) HS)
                have RB : Hid (Blk (ws.alloc (.cells #[.int .i64 0, .int .i64 0] 23)) ws.heap.size #[.int .i64 0, .int .i64 0] 23) := Blk.new ws #[.int .i64 0, .int .i64 0] 23
                have HS2 := Reg.ext ((Ext.refl _).alloc (.cells #[.int .i64 0, .int .i64 0] 23)) HS
                clear HS
                have HS := HS2
                clear HS2
                generalize ws.alloc (.cells #[.int .i64 0, .int .i64 0] 23) = wa at HS RB ⊢
                try simp only [Act.put, List.setIfInBounds_toArray, List.set_cons_zero, List.set_cons_succ]
                refine wpAnyH_ready (rs := [9]) (by kernel_rfl) (by simp) (AllReadyH.cons (o := { dst := none, op := Op.store _ (Operand.tmp 8) (Operand.tmp 51), type := _, pos := _, after := _, guard := none }) rfl (fun KK hK => ?_) AllReadyH.nil)
                refine Eq.mpr (if_pos (by rfl)) ?_
                refine wp_store_row 23 (.tmp 8) (.tmp 51) rfl _ #[.int .i64 (T).1, .int .i64 (T).2] rfl rfl 23 _ (unhide RB) sizeT rfl (by simp [Value.oneCell']) ?_
                have NR := hide (Reg.newrow HS (unhide RB) (unhide FR).1 (unhide FR).2.1 (unhide FR).2.2 T)
                refine hK.out _ _ (Reg.tail (unhide NR)) (fun _ => ?_)
                have HS2 := Reg.tail (unhide NR)
                clear hK KK HS
                have HS := HS2
                clear HS2
                try simp only [Act.put, List.setIfInBounds_toArray, List.set_cons_zero, List.set_cons_succ]
                refine wpAnyH_take (i := 10) (oi := { dst := some 9, op := Op.assign (Operand.tmp 52), type := _, pos := _, after := _, guard := none }) (v := .int .i64 (er)) rfl (by kernel_rfl) (by kernel_rfl) (by kernel_rfl) (fun _ _ _ h => h) (Or.inl ⟨by rfl, fun wx hx => by go_simp⟩) HS ?_
                simp only [Act.put, List.setIfInBounds_toArray, List.set_cons_zero, List.set_cons_succ]
                refine wpAnyH_done (by kernel_rfl) ?_ _
                refine NoPanic.normal ?_
                go_wp2
                go_meet
                exact ⟨_, _, rfl, rfl, rfl, NR⟩
              · refine Eq.mpr (if_pos (by rfl)) ?_
                go_simp
                refine hK.out _ (wm1.drew.alloc (.cells #[.int .i64 0, .int .i64 0] 23)) (Reg.ext ((Ext.refl _).alloc _) HS) (fun _ => ?_)
                clear hK KK
                have FR := hide (Reg.fresh (w1 := wm1) (unhide H2))
                have RB : Hid (Blk (wm1.drew.alloc (.cells #[.int .i64 0, .int .i64 0] 23)) wm1.heap.size #[.int .i64 0, .int .i64 0] 23) := Blk.new wm1.drew #[.int .i64 0, .int .i64 0] 23
                have HS2 := Reg.ext ((Ext.refl _).alloc (.cells #[.int .i64 0, .int .i64 0] 23)) HS
                clear HS
                have HS := HS2
                clear HS2
                generalize wm1.drew.alloc (.cells #[.int .i64 0, .int .i64 0] 23) = wa at HS RB ⊢
                try simp only [Act.put, List.setIfInBounds_toArray, List.set_cons_zero, List.set_cons_succ]
                refine wpAnyH_ready (rs := [4]) (by kernel_rfl) (by simp) (AllReadyH.cons (o := { dst := some 50, op := Op.call { callee := Callee.value (Operand.func _), args := #[Operand.tmp 47, Operand.tmp 48, Operand.tmp 49], argTypes := _ }, type := _, pos := _, after := _, guard := none }) rfl (fun KK hK => ?_) AllReadyH.nil)
                go_simp
                refine (unhide HBN _).mono ?_
                rintro e ws ⟨rfl, hxs⟩
                have RB2 := hide ((unhide RB).ext hxs)
                clear RB
                have RB := RB2
                clear RB2
                have HS2 := Reg.ext hxs HS
                clear hxs HS
                have HS := HS2
                clear HS2
                refine hK.out _ _ HS (fun _ => ?_)
                clear hK KK
                try simp only [Act.put, List.setIfInBounds_toArray, List.set_cons_zero, List.set_cons_succ]
                refine wpAnyH_take (i := 5) (oi := { dst := some 45, op := Op.move (Operand.tmp 50), type := _, pos := _, after := _, guard := none }) (v := .tuple #[.agg #[.int .i64 (T).1, .int .i64 (T).2], .int .i64 (er)]) rfl (by kernel_rfl) (by kernel_rfl) (by kernel_rfl) (fun _ _ _ h => h) (Or.inl ⟨by rfl, fun wx hx => by go_simp⟩) HS ?_
                simp only [Act.put, List.setIfInBounds_toArray, List.set_cons_zero, List.set_cons_succ]
                refine wpAnyH_take (i := 6) (oi := { dst := some 51, op := Op.extract (Operand.tmp 45) 0, type := _, pos := _, after := _, guard := none }) (v := .agg #[.int .i64 (T).1, .int .i64 (T).2]) rfl (by kernel_rfl) (by kernel_rfl) (by kernel_rfl) (fun _ _ _ h => h) (Or.inl ⟨by rfl, fun wx hx => by go_simp⟩) HS ?_
                simp only [Act.put, List.setIfInBounds_toArray, List.set_cons_zero, List.set_cons_succ]
                refine wpAnyH_take (i := 7) (oi := { dst := some 52, op := Op.extract (Operand.tmp 45) 1, type := _, pos := _, after := _, guard := none }) (v := .int .i64 (er)) rfl (by kernel_rfl) (by kernel_rfl) (by kernel_rfl) (fun _ _ _ h => h) (Or.inl ⟨by rfl, fun wx hx => by go_simp⟩) HS ?_
                simp only [Act.put, List.setIfInBounds_toArray, List.set_cons_zero, List.set_cons_succ]
                refine wpAnyH_ready (rs := [9]) (by kernel_rfl) (by simp) (AllReadyH.cons (o := { dst := none, op := Op.store _ (Operand.tmp 8) (Operand.tmp 51), type := _, pos := _, after := _, guard := none }) rfl (fun KK hK => ?_) AllReadyH.nil)
                refine Eq.mpr (if_pos (by rfl)) ?_
                refine wp_store_row 23 (.tmp 8) (.tmp 51) rfl _ #[.int .i64 (T).1, .int .i64 (T).2] rfl rfl 23 _ (unhide RB) sizeT rfl (by simp [Value.oneCell']) ?_
                have NR := hide (Reg.newrow HS (unhide RB) (unhide FR).1 (unhide FR).2.1 (unhide FR).2.2 T)
                refine hK.out _ _ (Reg.tail (unhide NR)) (fun _ => ?_)
                have HS2 := Reg.tail (unhide NR)
                clear hK KK HS
                have HS := HS2
                clear HS2
                try simp only [Act.put, List.setIfInBounds_toArray, List.set_cons_zero, List.set_cons_succ]
                refine wpAnyH_take (i := 10) (oi := { dst := some 9, op := Op.assign (Operand.tmp 52), type := _, pos := _, after := _, guard := none }) (v := .int .i64 (er)) rfl (by kernel_rfl) (by kernel_rfl) (by kernel_rfl) (fun _ _ _ h => h) (Or.inl ⟨by rfl, fun wx hx => by go_simp⟩) HS ?_
                simp only [Act.put, List.setIfInBounds_toArray, List.set_cons_zero, List.set_cons_succ]
                refine wpAnyH_done (by kernel_rfl) ?_ _
                refine NoPanic.normal ?_
                go_wp2
                go_meet
                exact ⟨_, _, rfl, rfl, rfl, NR⟩
            case rest =>
            obtain ⟨r, w3, rfl, rfl, rfl, H3⟩ := hcut
            clear H2 HBN
            rcases hK with rfl | rfl
            · rw [show ((0 : Int) == 0) = true from rfl, Bool.true_and] at hU
              cases hq : eqT T a with
              | true =>
                rw [hq] at hU
                have eq := eqT_iff.1 hq
                subst eq
                subst hU
                have q1 : (T.1 == T.1) = true := by simp
                have q2 : (T.2 == T.2) = true := by simp
                have HS := unhide H3
                clear H3
                obtain ⟨c0, k0⟩ := HS.at (r) (T) (by simp)
                obtain ⟨c1, k1⟩ := HS.at (w.heap.size) (T) (by simp)
                obtain ⟨c2, k2⟩ := HS.at (w.heap.size + 1) (c) (by simp)
                obtain ⟨x, y, r0, r1, z0, z1⟩ := HS.res
                have HF := hide (HS.fin (.int .i64 (T).1) (.int .i64 (T).2))
                clear HS
                go_wp2
                obtain ⟨s0, s1⟩ := (unhide HF).1.two
                exact bodyPost_ret (v := .tuple #[.agg #[.int .i64 (T).1, .int .i64 (T).2], .int .i64 0]) (by simp [results, Try.results20, go_sem, s0, s1, noT]) rfl ⟨rfl, (unhide HF).2⟩
              | false =>
                rw [hq] at hU
                subst hU
                rcases eqT_cases hq with q1 | ⟨q1, q2⟩ <;>
                · clear hq
                  have HS := unhide H3
                  clear H3
                  obtain ⟨c0, k0⟩ := HS.at (r) (T) (by simp)
                  obtain ⟨c1, k1⟩ := HS.at (w.heap.size) (a) (by simp)
                  obtain ⟨c2, k2⟩ := HS.at (w.heap.size + 1) (c) (by simp)
                  obtain ⟨x, y, r0, r1, z0, z1⟩ := HS.res
                  have HF := hide (HS.fin (.int .i64 0) (.int .i64 0))
                  clear HS
                  go_wp2
                  obtain ⟨s0, s1⟩ := (unhide HF).1.two
                  exact bodyPost_ret (v := .tuple #[.agg #[.int .i64 (noT).1, .int .i64 (noT).2], .int .i64 230]) (by simp [results, Try.results20, go_sem, s0, s1, noT]) rfl ⟨rfl, (unhide HF).2⟩
            · rw [show ((230 : Int) == 0) = false from rfl, Bool.false_and] at hU
              subst hU
              have HS := unhide H3
              clear H3
              obtain ⟨c0, k0⟩ := HS.at (r) (T) (by simp)
              obtain ⟨c1, k1⟩ := HS.at (w.heap.size) (a) (by simp)
              obtain ⟨c2, k2⟩ := HS.at (w.heap.size + 1) (c) (by simp)
              obtain ⟨x, y, r0, r1, z0, z1⟩ := HS.res
              have HF := hide (HS.fin (.int .i64 0) (.int .i64 0))
              clear HS
              go_wp2
              obtain ⟨s0, s1⟩ := (unhide HF).1.two
              exact bodyPost_ret (v := .tuple #[.agg #[.int .i64 (noT).1, .int .i64 (noT).2], .int .i64 230]) (by simp [results, Try.results20, go_sem, s0, s1, noT]) rfl ⟨rfl, (unhide HF).2⟩
        · rw [if_neg (by simpa using h5)] at hU
          subst hU
          have f2 : ∀ x ∈ op5, (o == x) = false := fun x hx => beq_eq_false_iff_ne.2 (fun e => h5 (by subst e; exact hx))
          have g0 := f2 [43, 61] (by decide)
          have g1 := f2 [45, 61] (by decide)
          have g2 := f2 [42, 61] (by decide)
          have g3 := f2 [47, 61] (by decide)
          clear f2 h5
          have HS := unhide H2
          clear c0 k0 c1 k1 H2
          obtain ⟨c0, k0⟩ := HS.at (w.heap.size) (a) (by simp)
          obtain ⟨c1, k1⟩ := HS.at (w.heap.size + 1) (c) (by simp)
          obtain ⟨x, y, r0, r1, z0, z1⟩ := HS.res
          have HF := hide (HS.fin (.int .i64 0) (.int .i64 0))
          clear HS
          go_wp2
          obtain ⟨s0, s1⟩ := (unhide HF).1.two
          exact bodyPost_ret (v := .tuple #[.agg #[.int .i64 (noT).1, .int .i64 (noT).2], .int .i64 4]) (by simp [results, Try.results20, go_sem, s0, s1, noT]) rfl ⟨rfl, (unhide HF).2⟩
end Go.Proofs.Ytokmplebajgckaa
