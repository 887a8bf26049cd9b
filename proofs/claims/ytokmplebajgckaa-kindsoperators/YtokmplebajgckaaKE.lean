/-
  Types: what comes of two by + - * and /, and of a value that is given to a place. What the dump lacks is left out.
-/
import Derived.Test.YtokmplebajgckaaKD
namespace Go.Proofs.Ytokmplebajgckaa
open Go.RowKit
set_option linter.unusedVariables false
set_option linter.unusedSimpArgs false

theorem Reg.add {w0 w1 : World} {l : List (Nat × Ty)} {R : Nat} (h : Reg w0 l R w1) (t : Ty) : Reg w0 ((w1.heap.size, t) :: l) R (w1.alloc (.cells #[.int .i64 (t).1, .int .i64 (t).2] 23)) := by
  have h9 := Reg.ext ((Ext.refl w1).alloc (.cells #[.int .i64 (t).1, .int .i64 (t).2] 23)) h
  obtain ⟨h0, h1, ⟨x, y, h2⟩, h3, h4⟩ := h
  refine ⟨h9.1, ?_, h9.2.2.1, h3, ?_⟩
  · intro p hp
    rcases List.mem_cons.1 hp with rfl | hp
    · exact Blk.new _ _ _
    · exact h9.2.1 p hp
  · intro p hp
    rcases List.mem_cons.1 hp with rfl | hp
    · exact Nat.ne_of_gt h2.lt
    · exact h4 p hp
def szB (a c : Ty) : Bool := (a.2 == c.2 || plnP a) || plnP c
theorem togB_eq (a c : Ty) : togB a c = (numP a && (a.1 == c.1) && szB a c) := rfl

set_option maxHeartbeats 4000000 in
theorem together_any (a c : Ty) (w : World) : Calls Try.prog 29 #[.agg #[.int .i64 (a).1, .int .i64 (a).2], .agg #[.int .i64 (c).1, .int .i64 (c).2]] w fun e w' => e = .returned (.tuple #[.agg #[.int .i64 (sumT a c).1, .int .i64 (sumT a c).2], .bool (togB a c)]) ∧ Ext w w' := by
  have H0 := hide (reg2 w a c)
  have HP := hide isPlain_any
  have HN := hide isNumber_any
  obtain ⟨U, hU⟩ : ∃ U, togB a c = U := ⟨_, rfl⟩
  rw [hU]
  rw [togB_eq] at hU
  have HU := hide hU
  clear hU
  go_enter Try.func29, Try.ntmps29
  go_upto_region 1 with fail
  generalize ((w.alloc (.cells #[.int .i64 (a).1, .int .i64 (a).2] 23)).alloc (.cells #[.int .i64 (c).1, .int .i64 (c).2] 23)).alloc (.cells #[.int .i64 0, .int .i64 0] 23) = w1 at H0 ⊢
  go_cut [6] (fun v wc => v = .bool (szB a c) ∧ Hid (Reg w [(w.heap.size, a), (w.heap.size + 1, c)] (w.heap.size + 1 + 1) wc))
  case first =>
    obtain ⟨c0, c1⟩ := (unhide H0).at (w.heap.size) a (by simp)
    obtain ⟨d0, d1⟩ := (unhide H0).at (w.heap.size + 1) c (by simp)
    cases q : (a.2 == c.2) with
    | true =>
      have hz : szB a c = true := by unfold szB; rw [q]; rfl
      go_wp2
      go_meet
      exact ⟨by rw [hz], H0⟩
    | false =>
      go_wp2_with fail
      refine (unhide HP a _).mono ?_
      rintro e w2 ⟨rfl, hx2⟩
      have H2 := hide (Reg.ext hx2 (unhide H0))
      clear hx2 c0 c1 d0 d1
      obtain ⟨c0, c1⟩ := (unhide H2).at (w.heap.size) a (by simp)
      obtain ⟨d0, d1⟩ := (unhide H2).at (w.heap.size + 1) c (by simp)
      cases p : plnP a with
      | true =>
        have hz : szB a c = true := by unfold szB; rw [q, p]; rfl
        go_wp2
        go_meet
        exact ⟨by rw [hz], H2⟩
      | false =>
        have hz : szB a c = plnP c := by unfold szB; rw [q, p]; rfl
        go_wp2_with fail
        refine (unhide HP c _).mono ?_
        rintro e w3 ⟨rfl, hx3⟩
        have H3 := hide (Reg.ext hx3 (unhide H2))
        clear hx3
        go_wp2
        go_meet
        exact ⟨by rw [hz], H3⟩
  case rest =>
  obtain ⟨rfl, H1⟩ := hcut
  rename_i w2
  clear H0 HP
  generalize szB a c = z at *
  go_upto_region 2 with fail
  go_cut [7] (fun p wc => ∃ r w3, w3 = wc ∧ p = .pointer (some ⟨r, 0, none⟩) ∧ Hid (Reg w [(r, sumT a c), (w.heap.size, a), (w.heap.size + 1, c)] (w.heap.size + 1 + 1) wc))
  case first =>
    obtain ⟨c0, c1⟩ := (unhide H1).at (w.heap.size) a (by simp)
    obtain ⟨d0, d1⟩ := (unhide H1).at (w.heap.size + 1) c (by simp)
    have HA := hide ((unhide H1).add (sumT a c))
    rcases Int.lt_or_le a.2 c.2 with hm | hm
    · have e : sumT a c = ⟨a.1, c.2⟩ := by unfold sumT; rw [Int.max_eq_right (by omega)]
      rw [e] at HA
      go_wp2
      go_meet
      exact ⟨_, _, rfl, rfl, by rw [e]; exact HA⟩
    · have e : sumT a c = ⟨a.1, a.2⟩ := by unfold sumT; rw [Int.max_eq_left (by omega)]
      rw [e] at HA
      go_wp2
      go_meet
      exact ⟨_, _, rfl, rfl, by rw [e]; exact HA⟩
  case rest =>
  obtain ⟨r, w3, rfl, rfl, H3⟩ := hcut
  clear H1
  generalize hSS : sumT a c = S at *
  have HSS := hide hSS
  clear hSS
  have hU := unhide HU
  clear HU
  cases hn : numP a with
  | false =>
    rw [hn, Bool.false_and, Bool.false_and] at hU
    subst hU
    have HN1 := unhide HN a
    rw [hn] at HN1
    go_upto_region 3 with fail
    refine wp_region_noPanic ?_
    refine wp_region_held_drew (S := fun wx => Reg w [(r, S), (w.heap.size, a), (w.heap.size + 1, c)] (w.heap.size + 1 + 1) wx) (by kernel_rfl) ((unhide H3).drew) (fun HS => ?_)
    refine wpAnyH_take (i := 0) (oi := { dst := some 29, op := Op.load _ (Operand.tmp 7), type := _, pos := _, after := _, guard := none }) (v := .agg #[.int .i64 (S).1, .int .i64 (S).2]) rfl (by kernel_rfl) (by kernel_rfl) (by kernel_rfl) (fun _ _ _ h => h) (Or.inl ⟨by rfl, fun wx hx => by obtain ⟨c0, c1⟩ := hx.at (r) (S) (by simp); go_simp⟩) HS ?_
    simp only [Act.put, List.setIfInBounds_toArray, List.set_cons_zero, List.set_cons_succ]
    refine wpAnyH_take (i := 1) (oi := { dst := some 30, op := Op.load _ (Operand.tmp 2), type := _, pos := _, after := _, guard := none }) (v := .agg #[.int .i64 (a).1, .int .i64 (a).2]) rfl (by kernel_rfl) (by kernel_rfl) (by kernel_rfl) (fun _ _ _ h => h) (Or.inl ⟨by rfl, fun wx hx => by obtain ⟨c0, c1⟩ := hx.at (w.heap.size) (a) (by simp); go_simp⟩) HS ?_
    simp only [Act.put, List.setIfInBounds_toArray, List.set_cons_zero, List.set_cons_succ]
    refine wpAnyH_ready (rs := [2]) (by kernel_rfl) (by simp) (AllReadyH.cons (o := { dst := some 31, op := Op.call { callee := Callee.value (Operand.func _), args := #[Operand.tmp 30], argTypes := _ }, type := _, pos := _, after := _, guard := none }) rfl (fun KK hK => ?_) AllReadyH.nil)
    go_simp
    refine (HN1 _).mono ?_
    rintro e ws ⟨rfl, hxs⟩
    have HS2 := Reg.ext hxs HS
    clear hxs HS
    have HS := HS2
    clear HS2
    refine hK.out _ _ HS (fun _ => ?_)
    clear hK KK
    try simp only [Act.put, List.setIfInBounds_toArray, List.set_cons_zero, List.set_cons_succ]
    refine wpAnyH_take (i := 3) (oi := { dst := some 32, op := Op.move (Operand.tmp 31), type := _, pos := _, after := _, guard := none }) (v := .bool (false)) rfl (by kernel_rfl) (by kernel_rfl) (by kernel_rfl) (fun _ _ _ h => h) (Or.inl ⟨by rfl, fun wx hx => by go_simp⟩) HS ?_
    simp only [Act.put, List.setIfInBounds_toArray, List.set_cons_zero, List.set_cons_succ]
    refine wpAnyH_take (i := 4) (oi := { dst := some 33, op := Op.fieldAddr _ (Operand.tmp 2) 0, type := _, pos := _, after := _, guard := some (3, true) }) (v := undef) rfl (by kernel_rfl) (by kernel_rfl) (by kernel_rfl) (fun _ _ _ h => h) (Or.inr ⟨by rfl, rfl⟩) HS ?_
    simp only [Act.put, List.setIfInBounds_toArray, List.set_cons_zero, List.set_cons_succ]
    refine wpAnyH_take (i := 5) (oi := { dst := some 34, op := Op.load _ (Operand.tmp 33), type := _, pos := _, after := _, guard := some (3, true) }) (v := undef) rfl (by kernel_rfl) (by kernel_rfl) (by kernel_rfl) (fun _ _ _ h => h) (Or.inr ⟨by rfl, rfl⟩) HS ?_
    simp only [Act.put, List.setIfInBounds_toArray, List.set_cons_zero, List.set_cons_succ]
    refine wpAnyH_take (i := 6) (oi := { dst := some 35, op := Op.fieldAddr _ (Operand.tmp 3) 0, type := _, pos := _, after := _, guard := some (3, true) }) (v := undef) rfl (by kernel_rfl) (by kernel_rfl) (by kernel_rfl) (fun _ _ _ h => h) (Or.inr ⟨by rfl, rfl⟩) HS ?_
    simp only [Act.put, List.setIfInBounds_toArray, List.set_cons_zero, List.set_cons_succ]
    refine wpAnyH_take (i := 7) (oi := { dst := some 36, op := Op.load _ (Operand.tmp 35), type := _, pos := _, after := _, guard := some (3, true) }) (v := undef) rfl (by kernel_rfl) (by kernel_rfl) (by kernel_rfl) (fun _ _ _ h => h) (Or.inr ⟨by rfl, rfl⟩) HS ?_
    simp only [Act.put, List.setIfInBounds_toArray, List.set_cons_zero, List.set_cons_succ]
    refine wpAnyH_take (i := 8) (oi := { dst := some 37, op := Op.binOp BinOp.eql _ (Operand.tmp 34) (Operand.tmp 36) _, type := _, pos := _, after := _, guard := some (3, true) }) (v := undef) rfl (by kernel_rfl) (by kernel_rfl) (by kernel_rfl) (fun _ _ _ h => h) (Or.inr ⟨by rfl, rfl⟩) HS ?_
    simp only [Act.put, List.setIfInBounds_toArray, List.set_cons_zero, List.set_cons_succ]
    refine wpAnyH_take (i := 9) (oi := { dst := some 38, op := Op.pick (Operand.tmp 32) (Operand.tmp 37) (Operand.const (Value.bool false)), type := _, pos := _, after := _, guard := none }) (v := .bool (false)) rfl (by kernel_rfl) (by kernel_rfl) (by kernel_rfl) (fun _ _ _ h => h) (Or.inl ⟨by rfl, fun wx hx => by go_simp⟩) HS ?_
    simp only [Act.put, List.setIfInBounds_toArray, List.set_cons_zero, List.set_cons_succ]
    refine wpAnyH_take (i := 10) (oi := { dst := some 39, op := Op.move (Operand.tmp 38), type := _, pos := _, after := _, guard := none }) (v := .bool (false)) rfl (by kernel_rfl) (by kernel_rfl) (by kernel_rfl) (fun _ _ _ h => h) (Or.inl ⟨by rfl, fun wx hx => by go_simp⟩) HS ?_
    simp only [Act.put, List.setIfInBounds_toArray, List.set_cons_zero, List.set_cons_succ]
    refine wpAnyH_take (i := 11) (oi := { dst := some 40, op := Op.move (Operand.tmp 6), type := _, pos := _, after := _, guard := some (10, true) }) (v := undef) rfl (by kernel_rfl) (by kernel_rfl) (by kernel_rfl) (fun _ _ _ h => h) (Or.inr ⟨by rfl, rfl⟩) HS ?_
    simp only [Act.put, List.setIfInBounds_toArray, List.set_cons_zero, List.set_cons_succ]
    refine wpAnyH_take (i := 12) (oi := { dst := some 41, op := Op.pick (Operand.tmp 39) (Operand.tmp 40) (Operand.const (Value.bool false)), type := _, pos := _, after := _, guard := none }) (v := .bool (false)) rfl (by kernel_rfl) (by kernel_rfl) (by kernel_rfl) (fun _ _ _ h => h) (Or.inl ⟨by rfl, fun wx hx => by go_simp⟩) HS ?_
    simp only [Act.put, List.setIfInBounds_toArray, List.set_cons_zero, List.set_cons_succ]
    refine wpAnyH_ready (rs := [13]) (by kernel_rfl) (by simp) (AllReadyH.cons (o := { dst := none, op := Op.store _ (Operand.tmp 4) (Operand.tmp 29), type := _, pos := _, after := _, guard := none }) rfl (fun KK hK => ?_) AllReadyH.nil)
    obtain ⟨x, y, r0, r1, z0, z1⟩ := HS.res
    have HF := hide (HS.fin (.int .i64 (S).1) (.int .i64 (S).2))
    go_simp
    refine hK.out _ _ (Reg.put HS (.int .i64 (S).1) (.int .i64 (S).2)) (fun _ => ?_)
    have HS2 := Reg.put HS (.int .i64 (S).1) (.int .i64 (S).2)
    clear hK KK HS
    have HS := HS2
    clear HS2
    try simp only [Act.put, List.setIfInBounds_toArray, List.set_cons_zero, List.set_cons_succ]
    refine wpAnyH_take (i := 14) (oi := { dst := some 5, op := Op.assign (Operand.tmp 41), type := _, pos := _, after := _, guard := none }) (v := .bool (false)) rfl (by kernel_rfl) (by kernel_rfl) (by kernel_rfl) (fun _ _ _ h => h) (Or.inl ⟨by rfl, fun wx hx => by go_simp⟩) HS ?_
    simp only [Act.put, List.setIfInBounds_toArray, List.set_cons_zero, List.set_cons_succ]
    refine wpAnyH_done (by kernel_rfl) ?_ _
    refine NoPanic.normal ?_
    go_wp2
    obtain ⟨s0, s1⟩ := (unhide HF).1.two
    exact bodyPost_ret (v := .tuple #[.agg #[.int .i64 (S).1, .int .i64 (S).2], .bool (false)]) (by simp [results, Try.results29, go_sem, s0, s1]) rfl ⟨by rw [unhide HSS], (unhide HF).2⟩
  | true =>
    have HN1 := unhide HN a
    rw [hn] at HN1
    cases q : (a.1 == c.1) with
    | false =>
      rw [hn, q, Bool.and_false, Bool.false_and] at hU
      subst hU
      go_upto_region 3 with fail
      refine wp_region_noPanic ?_
      refine wp_region_held_drew (S := fun wx => Reg w [(r, S), (w.heap.size, a), (w.heap.size + 1, c)] (w.heap.size + 1 + 1) wx) (by kernel_rfl) ((unhide H3).drew) (fun HS => ?_)
      refine wpAnyH_take (i := 0) (oi := { dst := some 29, op := Op.load _ (Operand.tmp 7), type := _, pos := _, after := _, guard := none }) (v := .agg #[.int .i64 (S).1, .int .i64 (S).2]) rfl (by kernel_rfl) (by kernel_rfl) (by kernel_rfl) (fun _ _ _ h => h) (Or.inl ⟨by rfl, fun wx hx => by obtain ⟨c0, c1⟩ := hx.at (r) (S) (by simp); go_simp⟩) HS ?_
      simp only [Act.put, List.setIfInBounds_toArray, List.set_cons_zero, List.set_cons_succ]
      refine wpAnyH_take (i := 1) (oi := { dst := some 30, op := Op.load _ (Operand.tmp 2), type := _, pos := _, after := _, guard := none }) (v := .agg #[.int .i64 (a).1, .int .i64 (a).2]) rfl (by kernel_rfl) (by kernel_rfl) (by kernel_rfl) (fun _ _ _ h => h) (Or.inl ⟨by rfl, fun wx hx => by obtain ⟨c0, c1⟩ := hx.at (w.heap.size) (a) (by simp); go_simp⟩) HS ?_
      simp only [Act.put, List.setIfInBounds_toArray, List.set_cons_zero, List.set_cons_succ]
      refine wpAnyH_ready (rs := [2]) (by kernel_rfl) (by simp) (AllReadyH.cons (o := { dst := some 31, op := Op.call { callee := Callee.value (Operand.func _), args := #[Operand.tmp 30], argTypes := _ }, type := _, pos := _, after := _, guard := none }) rfl (fun KK hK => ?_) AllReadyH.nil)
      go_simp
      refine (HN1 _).mono ?_
      rintro e ws ⟨rfl, hxs⟩
      have HS2 := Reg.ext hxs HS
      clear hxs HS
      have HS := HS2
      clear HS2
      refine hK.out _ _ HS (fun _ => ?_)
      clear hK KK
      try simp only [Act.put, List.setIfInBounds_toArray, List.set_cons_zero, List.set_cons_succ]
      refine wpAnyH_take (i := 3) (oi := { dst := some 32, op := Op.move (Operand.tmp 31), type := _, pos := _, after := _, guard := none }) (v := .bool (true)) rfl (by kernel_rfl) (by kernel_rfl) (by kernel_rfl) (fun _ _ _ h => h) (Or.inl ⟨by rfl, fun wx hx => by go_simp⟩) HS ?_
      simp only [Act.put, List.setIfInBounds_toArray, List.set_cons_zero, List.set_cons_succ]
      refine wpAnyH_take (i := 4) (oi := { dst := some 33, op := Op.fieldAddr _ (Operand.tmp 2) 0, type := _, pos := _, after := _, guard := some (3, true) }) (v := .pointer (some ⟨w.heap.size, 0, none⟩)) rfl (by kernel_rfl) (by kernel_rfl) (by kernel_rfl) (fun _ _ _ h => h) (Or.inl ⟨by rfl, fun wx hx => by go_simp⟩) HS ?_
      simp only [Act.put, List.setIfInBounds_toArray, List.set_cons_zero, List.set_cons_succ]
      refine wpAnyH_take (i := 5) (oi := { dst := some 34, op := Op.load _ (Operand.tmp 33), type := _, pos := _, after := _, guard := some (3, true) }) (v := .int .i64 ((a).1)) rfl (by kernel_rfl) (by kernel_rfl) (by kernel_rfl) (fun _ _ _ h => h) (Or.inl ⟨by rfl, fun wx hx => by obtain ⟨c0, c1⟩ := hx.at (w.heap.size) (a) (by simp); go_simp⟩) HS ?_
      simp only [Act.put, List.setIfInBounds_toArray, List.set_cons_zero, List.set_cons_succ]
      refine wpAnyH_take (i := 6) (oi := { dst := some 35, op := Op.fieldAddr _ (Operand.tmp 3) 0, type := _, pos := _, after := _, guard := some (3, true) }) (v := .pointer (some ⟨w.heap.size + 1, 0, none⟩)) rfl (by kernel_rfl) (by kernel_rfl) (by kernel_rfl) (fun _ _ _ h => h) (Or.inl ⟨by rfl, fun wx hx => by go_simp⟩) HS ?_
      simp only [Act.put, List.setIfInBounds_toArray, List.set_cons_zero, List.set_cons_succ]
      refine wpAnyH_take (i := 7) (oi := { dst := some 36, op := Op.load _ (Operand.tmp 35), type := _, pos := _, after := _, guard := some (3, true) }) (v := .int .i64 ((c).1)) rfl (by kernel_rfl) (by kernel_rfl) (by kernel_rfl) (fun _ _ _ h => h) (Or.inl ⟨by rfl, fun wx hx => by obtain ⟨c0, c1⟩ := hx.at (w.heap.size + 1) (c) (by simp); go_simp⟩) HS ?_
      simp only [Act.put, List.setIfInBounds_toArray, List.set_cons_zero, List.set_cons_succ]
      refine wpAnyH_take (i := 8) (oi := { dst := some 37, op := Op.binOp BinOp.eql _ (Operand.tmp 34) (Operand.tmp 36) _, type := _, pos := _, after := _, guard := some (3, true) }) (v := .bool (false)) rfl (by kernel_rfl) (by kernel_rfl) (by kernel_rfl) (fun _ _ _ h => h) (Or.inl ⟨by rfl, fun wx hx => by go_simp⟩) HS ?_
      simp only [Act.put, List.setIfInBounds_toArray, List.set_cons_zero, List.set_cons_succ]
      refine wpAnyH_take (i := 9) (oi := { dst := some 38, op := Op.pick (Operand.tmp 32) (Operand.tmp 37) (Operand.const (Value.bool false)), type := _, pos := _, after := _, guard := none }) (v := .bool (false)) rfl (by kernel_rfl) (by kernel_rfl) (by kernel_rfl) (fun _ _ _ h => h) (Or.inl ⟨by rfl, fun wx hx => by go_simp⟩) HS ?_
      simp only [Act.put, List.setIfInBounds_toArray, List.set_cons_zero, List.set_cons_succ]
      refine wpAnyH_take (i := 10) (oi := { dst := some 39, op := Op.move (Operand.tmp 38), type := _, pos := _, after := _, guard := none }) (v := .bool (false)) rfl (by kernel_rfl) (by kernel_rfl) (by kernel_rfl) (fun _ _ _ h => h) (Or.inl ⟨by rfl, fun wx hx => by go_simp⟩) HS ?_
      simp only [Act.put, List.setIfInBounds_toArray, List.set_cons_zero, List.set_cons_succ]
      refine wpAnyH_take (i := 11) (oi := { dst := some 40, op := Op.move (Operand.tmp 6), type := _, pos := _, after := _, guard := some (10, true) }) (v := undef) rfl (by kernel_rfl) (by kernel_rfl) (by kernel_rfl) (fun _ _ _ h => h) (Or.inr ⟨by rfl, rfl⟩) HS ?_
      simp only [Act.put, List.setIfInBounds_toArray, List.set_cons_zero, List.set_cons_succ]
      refine wpAnyH_take (i := 12) (oi := { dst := some 41, op := Op.pick (Operand.tmp 39) (Operand.tmp 40) (Operand.const (Value.bool false)), type := _, pos := _, after := _, guard := none }) (v := .bool (false)) rfl (by kernel_rfl) (by kernel_rfl) (by kernel_rfl) (fun _ _ _ h => h) (Or.inl ⟨by rfl, fun wx hx => by go_simp⟩) HS ?_
      simp only [Act.put, List.setIfInBounds_toArray, List.set_cons_zero, List.set_cons_succ]
      refine wpAnyH_ready (rs := [13]) (by kernel_rfl) (by simp) (AllReadyH.cons (o := { dst := none, op := Op.store _ (Operand.tmp 4) (Operand.tmp 29), type := _, pos := _, after := _, guard := none }) rfl (fun KK hK => ?_) AllReadyH.nil)
      obtain ⟨x, y, r0, r1, z0, z1⟩ := HS.res
      have HF := hide (HS.fin (.int .i64 (S).1) (.int .i64 (S).2))
      go_simp
      refine hK.out _ _ (Reg.put HS (.int .i64 (S).1) (.int .i64 (S).2)) (fun _ => ?_)
      have HS2 := Reg.put HS (.int .i64 (S).1) (.int .i64 (S).2)
      clear hK KK HS
      have HS := HS2
      clear HS2
      try simp only [Act.put, List.setIfInBounds_toArray, List.set_cons_zero, List.set_cons_succ]
      refine wpAnyH_take (i := 14) (oi := { dst := some 5, op := Op.assign (Operand.tmp 41), type := _, pos := _, after := _, guard := none }) (v := .bool (false)) rfl (by kernel_rfl) (by kernel_rfl) (by kernel_rfl) (fun _ _ _ h => h) (Or.inl ⟨by rfl, fun wx hx => by go_simp⟩) HS ?_
      simp only [Act.put, List.setIfInBounds_toArray, List.set_cons_zero, List.set_cons_succ]
      refine wpAnyH_done (by kernel_rfl) ?_ _
      refine NoPanic.normal ?_
      go_wp2
      obtain ⟨s0, s1⟩ := (unhide HF).1.two
      exact bodyPost_ret (v := .tuple #[.agg #[.int .i64 (S).1, .int .i64 (S).2], .bool (false)]) (by simp [results, Try.results29, go_sem, s0, s1]) rfl ⟨by rw [unhide HSS], (unhide HF).2⟩
    | true =>
      rw [hn, q, Bool.true_and, Bool.true_and] at hU
      subst hU
      go_upto_region 3 with fail
      refine wp_region_noPanic ?_
      refine wp_region_held_drew (S := fun wx => Reg w [(r, S), (w.heap.size, a), (w.heap.size + 1, c)] (w.heap.size + 1 + 1) wx) (by kernel_rfl) ((unhide H3).drew) (fun HS => ?_)
      refine wpAnyH_take (i := 0) (oi := { dst := some 29, op := Op.load _ (Operand.tmp 7), type := _, pos := _, after := _, guard := none }) (v := .agg #[.int .i64 (S).1, .int .i64 (S).2]) rfl (by kernel_rfl) (by kernel_rfl) (by kernel_rfl) (fun _ _ _ h => h) (Or.inl ⟨by rfl, fun wx hx => by obtain ⟨c0, c1⟩ := hx.at (r) (S) (by simp); go_simp⟩) HS ?_
      simp only [Act.put, List.setIfInBounds_toArray, List.set_cons_zero, List.set_cons_succ]
      refine wpAnyH_take (i := 1) (oi := { dst := some 30, op := Op.load _ (Operand.tmp 2), type := _, pos := _, after := _, guard := none }) (v := .agg #[.int .i64 (a).1, .int .i64 (a).2]) rfl (by kernel_rfl) (by kernel_rfl) (by kernel_rfl) (fun _ _ _ h => h) (Or.inl ⟨by rfl, fun wx hx => by obtain ⟨c0, c1⟩ := hx.at (w.heap.size) (a) (by simp); go_simp⟩) HS ?_
      simp only [Act.put, List.setIfInBounds_toArray, List.set_cons_zero, List.set_cons_succ]
      refine wpAnyH_ready (rs := [2]) (by kernel_rfl) (by simp) (AllReadyH.cons (o := { dst := some 31, op := Op.call { callee := Callee.value (Operand.func _), args := #[Operand.tmp 30], argTypes := _ }, type := _, pos := _, after := _, guard := none }) rfl (fun KK hK => ?_) AllReadyH.nil)
      go_simp
      refine (HN1 _).mono ?_
      rintro e ws ⟨rfl, hxs⟩
      have HS2 := Reg.ext hxs HS
      clear hxs HS
      have HS := HS2
      clear HS2
      refine hK.out _ _ HS (fun _ => ?_)
      clear hK KK
      try simp only [Act.put, List.setIfInBounds_toArray, List.set_cons_zero, List.set_cons_succ]
      refine wpAnyH_take (i := 3) (oi := { dst := some 32, op := Op.move (Operand.tmp 31), type := _, pos := _, after := _, guard := none }) (v := .bool (true)) rfl (by kernel_rfl) (by kernel_rfl) (by kernel_rfl) (fun _ _ _ h => h) (Or.inl ⟨by rfl, fun wx hx => by go_simp⟩) HS ?_
      simp only [Act.put, List.setIfInBounds_toArray, List.set_cons_zero, List.set_cons_succ]
      refine wpAnyH_take (i := 4) (oi := { dst := some 33, op := Op.fieldAddr _ (Operand.tmp 2) 0, type := _, pos := _, after := _, guard := some (3, true) }) (v := .pointer (some ⟨w.heap.size, 0, none⟩)) rfl (by kernel_rfl) (by kernel_rfl) (by kernel_rfl) (fun _ _ _ h => h) (Or.inl ⟨by rfl, fun wx hx => by go_simp⟩) HS ?_
      simp only [Act.put, List.setIfInBounds_toArray, List.set_cons_zero, List.set_cons_succ]
      refine wpAnyH_take (i := 5) (oi := { dst := some 34, op := Op.load _ (Operand.tmp 33), type := _, pos := _, after := _, guard := some (3, true) }) (v := .int .i64 ((a).1)) rfl (by kernel_rfl) (by kernel_rfl) (by kernel_rfl) (fun _ _ _ h => h) (Or.inl ⟨by rfl, fun wx hx => by obtain ⟨c0, c1⟩ := hx.at (w.heap.size) (a) (by simp); go_simp⟩) HS ?_
      simp only [Act.put, List.setIfInBounds_toArray, List.set_cons_zero, List.set_cons_succ]
      refine wpAnyH_take (i := 6) (oi := { dst := some 35, op := Op.fieldAddr _ (Operand.tmp 3) 0, type := _, pos := _, after := _, guard := some (3, true) }) (v := .pointer (some ⟨w.heap.size + 1, 0, none⟩)) rfl (by kernel_rfl) (by kernel_rfl) (by kernel_rfl) (fun _ _ _ h => h) (Or.inl ⟨by rfl, fun wx hx => by go_simp⟩) HS ?_
      simp only [Act.put, List.setIfInBounds_toArray, List.set_cons_zero, List.set_cons_succ]
      refine wpAnyH_take (i := 7) (oi := { dst := some 36, op := Op.load _ (Operand.tmp 35), type := _, pos := _, after := _, guard := some (3, true) }) (v := .int .i64 ((c).1)) rfl (by kernel_rfl) (by kernel_rfl) (by kernel_rfl) (fun _ _ _ h => h) (Or.inl ⟨by rfl, fun wx hx => by obtain ⟨c0, c1⟩ := hx.at (w.heap.size + 1) (c) (by simp); go_simp⟩) HS ?_
      simp only [Act.put, List.setIfInBounds_toArray, List.set_cons_zero, List.set_cons_succ]
      refine wpAnyH_take (i := 8) (oi := { dst := some 37, op := Op.binOp BinOp.eql _ (Operand.tmp 34) (Operand.tmp 36) _, type := _, pos := _, after := _, guard := some (3, true) }) (v := .bool (true)) rfl (by kernel_rfl) (by kernel_rfl) (by kernel_rfl) (fun _ _ _ h => h) (Or.inl ⟨by rfl, fun wx hx => by go_simp⟩) HS ?_
      simp only [Act.put, List.setIfInBounds_toArray, List.set_cons_zero, List.set_cons_succ]
      refine wpAnyH_take (i := 9) (oi := { dst := some 38, op := Op.pick (Operand.tmp 32) (Operand.tmp 37) (Operand.const (Value.bool false)), type := _, pos := _, after := _, guard := none }) (v := .bool (true)) rfl (by kernel_rfl) (by kernel_rfl) (by kernel_rfl) (fun _ _ _ h => h) (Or.inl ⟨by rfl, fun wx hx => by go_simp⟩) HS ?_
      simp only [Act.put, List.setIfInBounds_toArray, List.set_cons_zero, List.set_cons_succ]
      refine wpAnyH_take (i := 10) (oi := { dst := some 39, op := Op.move (Operand.tmp 38), type := _, pos := _, after := _, guard := none }) (v := .bool (true)) rfl (by kernel_rfl) (by kernel_rfl) (by kernel_rfl) (fun _ _ _ h => h) (Or.inl ⟨by rfl, fun wx hx => by go_simp⟩) HS ?_
      simp only [Act.put, List.setIfInBounds_toArray, List.set_cons_zero, List.set_cons_succ]
      refine wpAnyH_take (i := 11) (oi := { dst := some 40, op := Op.move (Operand.tmp 6), type := _, pos := _, after := _, guard := some (10, true) }) (v := .bool (z)) rfl (by kernel_rfl) (by kernel_rfl) (by kernel_rfl) (fun _ _ _ h => h) (Or.inl ⟨by rfl, fun wx hx => by go_simp⟩) HS ?_
      simp only [Act.put, List.setIfInBounds_toArray, List.set_cons_zero, List.set_cons_succ]
      refine wpAnyH_take (i := 12) (oi := { dst := some 41, op := Op.pick (Operand.tmp 39) (Operand.tmp 40) (Operand.const (Value.bool false)), type := _, pos := _, after := _, guard := none }) (v := .bool (z)) rfl (by kernel_rfl) (by kernel_rfl) (by kernel_rfl) (fun _ _ _ h => h) (Or.inl ⟨by rfl, fun wx hx => by go_simp⟩) HS ?_
      simp only [Act.put, List.setIfInBounds_toArray, List.set_cons_zero, List.set_cons_succ]
      refine wpAnyH_ready (rs := [13]) (by kernel_rfl) (by simp) (AllReadyH.cons (o := { dst := none, op := Op.store _ (Operand.tmp 4) (Operand.tmp 29), type := _, pos := _, after := _, guard := none }) rfl (fun KK hK => ?_) AllReadyH.nil)
      obtain ⟨x, y, r0, r1, z0, z1⟩ := HS.res
      have HF := hide (HS.fin (.int .i64 (S).1) (.int .i64 (S).2))
      go_simp
      refine hK.out _ _ (Reg.put HS (.int .i64 (S).1) (.int .i64 (S).2)) (fun _ => ?_)
      have HS2 := Reg.put HS (.int .i64 (S).1) (.int .i64 (S).2)
      clear hK KK HS
      have HS := HS2
      clear HS2
      try simp only [Act.put, List.setIfInBounds_toArray, List.set_cons_zero, List.set_cons_succ]
      refine wpAnyH_take (i := 14) (oi := { dst := some 5, op := Op.assign (Operand.tmp 41), type := _, pos := _, after := _, guard := none }) (v := .bool (z)) rfl (by kernel_rfl) (by kernel_rfl) (by kernel_rfl) (fun _ _ _ h => h) (Or.inl ⟨by rfl, fun wx hx => by go_simp⟩) HS ?_
      simp only [Act.put, List.setIfInBounds_toArray, List.set_cons_zero, List.set_cons_succ]
      refine wpAnyH_done (by kernel_rfl) ?_ _
      refine NoPanic.normal ?_
      go_wp2
      obtain ⟨s0, s1⟩ := (unhide HF).1.two
      exact bodyPost_ret (v := .tuple #[.agg #[.int .i64 (S).1, .int .i64 (S).2], .bool (z)]) (by simp [results, Try.results29, go_sem, s0, s1]) rfl ⟨by rw [unhide HSS], (unhide HF).2⟩

set_option maxHeartbeats 4000000 in
theorem assign_any (o : Byts8) (a c : Ty) (w : World) :
    Calls Try.prog 19 #[.string ⟨o.toArray⟩, .agg #[.int .i64 (a).1, .int .i64 (a).2], .agg #[.int .i64 (c).1, .int .i64 (c).2]] w fun e w' => e = .returned (.tuple #[.agg #[.int .i64 ((asgP o a c).1).1, .int .i64 ((asgP o a c).1).2], .int .i64 (asgP o a c).2]) ∧ Ext w w' := by
  have H0 := hide (reg2 w a c)
  have HM := hide (mayBe_any _ [a, c] _ (TyR.two (w := ((w.alloc (.cells #[.int .i64 (a).1, .int .i64 (a).2] 23)).alloc (.cells #[.int .i64 (c).1, .int .i64 (c).2] 23)).alloc (.cells #[.int .i64 0, .int .i64 0] 23)) (b := w.heap.size + 1 + 1 + 1) (by simp) a c 23))
  obtain ⟨U, hU⟩ : ∃ U, asgP o a c = U := ⟨_, rfl⟩
  rw [hU]
  unfold asgP at hU
  go_enter Try.func19, Try.ntmps19
  go_wp2_with fail
  refine (unhide HM).mono ?_
  rintro e w1 ⟨rfl, hx1⟩
  have H1 := hide (Reg.ext hx1 (Reg.ext ((Ext.refl _).alloc _) (unhide H0)))
  clear hx1 H0 HM
  rw [show [a, c].all mayP = (mayP a && mayP c) by simp]
  cases hm : (mayP a && mayP c) with
  | false =>
    rw [if_pos hm] at hU
    subst hU
    obtain ⟨x, y, r0, r1, z0, z1⟩ := (unhide H1).res
    have HF := hide ((unhide H1).fin (.int .i64 0) (.int .i64 0))
    go_wp2
    obtain ⟨s0, s1⟩ := (unhide HF).1.two
    exact bodyPost_ret (v := .tuple #[.agg #[.int .i64 (noT).1, .int .i64 (noT).2], .int .i64 2]) (by simp [results, Try.results19, go_sem, s0, s1, noT]) rfl ⟨rfl, (unhide HF).2⟩
  | true =>
    rw [if_neg (by rw [hm]; decide)] at hU
    clear hm
    by_cases e1 : o = [61]
    · subst e1
      rw [if_pos (by decide)] at hU
      cases hq : eqT a c with
      | true =>
        rw [hq] at hU
        have eq := eqT_iff.1 hq
        subst eq
        have q1 : ((a).1 == (a).1) = true := by simp
        have q2 : ((a).2 == (a).2) = true := by simp
        rw [Bool.true_and] at hU
        subst hU
        go_upto_region 5 with fail
        refine wp_region_noPanic ?_
        refine wp_region_held_drew (S := fun wx => Reg w [(w.heap.size, a), (w.heap.size + 1, a)] (w.heap.size + 1 + 1) wx) (by kernel_rfl) ((unhide H1).drew) (fun HS => ?_)
        refine wpAnyH_take (i := 0) (oi := { dst := some 19, op := Op.load _ (Operand.tmp 4), type := _, pos := _, after := _, guard := none }) (v := .agg #[.int .i64 (a).1, .int .i64 (a).2]) rfl (by kernel_rfl) (by kernel_rfl) (by kernel_rfl) (fun _ _ _ h => h) (Or.inl ⟨by rfl, fun wx hx => by obtain ⟨c0, c1⟩ := hx.at (w.heap.size) (a) (by simp); go_simp⟩) HS ?_
        simp only [Act.put, List.setIfInBounds_toArray, List.set_cons_zero, List.set_cons_succ]
        refine wpAnyH_take (i := 1) (oi := { dst := some 20, op := Op.load _ (Operand.tmp 4), type := _, pos := _, after := _, guard := none }) (v := .agg #[.int .i64 (a).1, .int .i64 (a).2]) rfl (by kernel_rfl) (by kernel_rfl) (by kernel_rfl) (fun _ _ _ h => h) (Or.inl ⟨by rfl, fun wx hx => by obtain ⟨c0, c1⟩ := hx.at (w.heap.size) (a) (by simp); go_simp⟩) HS ?_
        simp only [Act.put, List.setIfInBounds_toArray, List.set_cons_zero, List.set_cons_succ]
        refine wpAnyH_take (i := 2) (oi := { dst := some 21, op := Op.load _ (Operand.tmp 5), type := _, pos := _, after := _, guard := none }) (v := .agg #[.int .i64 (a).1, .int .i64 (a).2]) rfl (by kernel_rfl) (by kernel_rfl) (by kernel_rfl) (fun _ _ _ h => h) (Or.inl ⟨by rfl, fun wx hx => by obtain ⟨c0, c1⟩ := hx.at (w.heap.size + 1) (a) (by simp); go_simp⟩) HS ?_
        simp only [Act.put, List.setIfInBounds_toArray, List.set_cons_zero, List.set_cons_succ]
        refine wpAnyH_take (i := 3) (oi := { dst := some 22, op := Op.binOp BinOp.eql _ (Operand.tmp 20) (Operand.tmp 21) _, type := _, pos := _, after := _, guard := none }) (v := .bool (true)) rfl (by kernel_rfl) (by kernel_rfl) (by kernel_rfl) (fun _ _ _ h => h) (Or.inl ⟨by rfl, fun wx hx => by go_simp⟩) HS ?_
        simp only [Act.put, List.setIfInBounds_toArray, List.set_cons_zero, List.set_cons_succ]
        refine wpAnyH_take (i := 4) (oi := { dst := some 23, op := Op.move (Operand.tmp 22), type := _, pos := _, after := _, guard := none }) (v := .bool (true)) rfl (by kernel_rfl) (by kernel_rfl) (by kernel_rfl) (fun _ _ _ h => h) (Or.inl ⟨by rfl, fun wx hx => by go_simp⟩) HS ?_
        simp only [Act.put, List.setIfInBounds_toArray, List.set_cons_zero, List.set_cons_succ]
        refine wpAnyH_take (i := 5) (oi := { dst := some 24, op := Op.load _ (Operand.tmp 4), type := _, pos := _, after := _, guard := some (4, true) }) (v := .agg #[.int .i64 (a).1, .int .i64 (a).2]) rfl (by kernel_rfl) (by kernel_rfl) (by kernel_rfl) (fun _ _ _ h => h) (Or.inl ⟨by rfl, fun wx hx => by obtain ⟨c0, c1⟩ := hx.at (w.heap.size) (a) (by simp); go_simp⟩) HS ?_
        simp only [Act.put, List.setIfInBounds_toArray, List.set_cons_zero, List.set_cons_succ]
        refine wpAnyH_ready (rs := [6]) (by kernel_rfl) (by simp) (AllReadyH.cons (o := { dst := some 25, op := Op.call { callee := Callee.value (Operand.func _), args := #[Operand.tmp 24], argTypes := _ }, type := _, pos := _, after := _, guard := some (4, true) }) rfl (fun KK hK => ?_) AllReadyH.nil)
        go_simp
        refine (isValue_any a _).mono ?_
        rintro e ws ⟨rfl, hxs⟩
        have HS2 := Reg.ext hxs HS
        clear hxs HS
        have HS := HS2
        clear HS2
        refine hK.out _ _ HS (fun _ => ?_)
        clear hK KK
        try simp only [Act.put, List.setIfInBounds_toArray, List.set_cons_zero, List.set_cons_succ]
        refine wpAnyH_take (i := 7) (oi := { dst := some 26, op := Op.pick (Operand.tmp 23) (Operand.tmp 25) (Operand.const (Value.bool false)), type := _, pos := _, after := _, guard := none }) (v := .bool (valuP a)) rfl (by kernel_rfl) (by kernel_rfl) (by kernel_rfl) (fun _ _ _ h => h) (Or.inl ⟨by rfl, fun wx hx => by go_simp⟩) HS ?_
        simp only [Act.put, List.setIfInBounds_toArray, List.set_cons_zero, List.set_cons_succ]
        refine wpAnyH_ready (rs := [8]) (by kernel_rfl) (by simp) (AllReadyH.cons (o := { dst := some 27, op := Op.call { callee := Callee.value (Operand.func _), args := #[Operand.tmp 19, Operand.tmp 26], argTypes := _ }, type := _, pos := _, after := _, guard := none }) rfl (fun KK hK => ?_) AllReadyH.nil)
        go_simp
        refine (comes_any (a) (valuP a) _).mono ?_
        rintro e ws ⟨rfl, hxs⟩
        have HS2 := Reg.ext hxs HS
        clear hxs HS
        have HS := HS2
        clear HS2
        refine hK.out _ _ HS (fun _ => ?_)
        clear hK KK
        try simp only [Act.put, List.setIfInBounds_toArray, List.set_cons_zero, List.set_cons_succ]
        refine wpAnyH_take (i := 9) (oi := { dst := some 28, op := Op.extract (Operand.tmp 27) 0, type := _, pos := _, after := _, guard := none }) (v := .agg #[.int .i64 ((comP (a) (valuP a)).1).1, .int .i64 ((comP (a) (valuP a)).1).2]) rfl (by kernel_rfl) (by kernel_rfl) (by kernel_rfl) (fun _ _ _ h => h) (Or.inl ⟨by rfl, fun wx hx => by go_simp⟩) HS ?_
        simp only [Act.put, List.setIfInBounds_toArray, List.set_cons_zero, List.set_cons_succ]
        refine wpAnyH_take (i := 10) (oi := { dst := some 29, op := Op.extract (Operand.tmp 27) 1, type := _, pos := _, after := _, guard := none }) (v := .int .i64 ((comP (a) (valuP a)).2)) rfl (by kernel_rfl) (by kernel_rfl) (by kernel_rfl) (fun _ _ _ h => h) (Or.inl ⟨by rfl, fun wx hx => by go_simp⟩) HS ?_
        simp only [Act.put, List.setIfInBounds_toArray, List.set_cons_zero, List.set_cons_succ]
        refine wpAnyH_ready (rs := [11]) (by kernel_rfl) (by simp) (AllReadyH.cons (o := { dst := none, op := Op.store _ (Operand.tmp 6) (Operand.tmp 28), type := _, pos := _, after := _, guard := none }) rfl (fun KK hK => ?_) AllReadyH.nil)
        obtain ⟨x, y, r0, r1, z0, z1⟩ := HS.res
        have HF := hide (HS.fin (.int .i64 ((comP (a) (valuP a)).1).1) (.int .i64 ((comP (a) (valuP a)).1).2))
        go_simp
        refine hK.out _ _ (Reg.put HS (.int .i64 ((comP (a) (valuP a)).1).1) (.int .i64 ((comP (a) (valuP a)).1).2)) (fun _ => ?_)
        have HS2 := Reg.put HS (.int .i64 ((comP (a) (valuP a)).1).1) (.int .i64 ((comP (a) (valuP a)).1).2)
        clear hK KK HS
        have HS := HS2
        clear HS2
        try simp only [Act.put, List.setIfInBounds_toArray, List.set_cons_zero, List.set_cons_succ]
        refine wpAnyH_take (i := 12) (oi := { dst := some 7, op := Op.assign (Operand.tmp 29), type := _, pos := _, after := _, guard := none }) (v := .int .i64 ((comP (a) (valuP a)).2)) rfl (by kernel_rfl) (by kernel_rfl) (by kernel_rfl) (fun _ _ _ h => h) (Or.inl ⟨by rfl, fun wx hx => by go_simp⟩) HS ?_
        simp only [Act.put, List.setIfInBounds_toArray, List.set_cons_zero, List.set_cons_succ]
        refine wpAnyH_done (by kernel_rfl) ?_ _
        refine NoPanic.normal ?_
        go_wp2
        obtain ⟨s0, s1⟩ := (unhide HF).1.two
        exact bodyPost_ret (v := .tuple #[.agg #[.int .i64 ((comP (a) (valuP a)).1).1, .int .i64 ((comP (a) (valuP a)).1).2], .int .i64 (comP (a) (valuP a)).2]) (by simp [results, Try.results19, go_sem, s0, s1]) rfl ⟨rfl, (unhide HF).2⟩
      | false =>
        rw [hq] at hU
        rcases eqT_cases hq with q1 | ⟨q1, q2⟩ <;>
        · clear hq
          rw [Bool.false_and] at hU
          subst hU
          go_upto_region 5 with fail
          refine wp_region_noPanic ?_
          refine wp_region_held_drew (S := fun wx => Reg w [(w.heap.size, a), (w.heap.size + 1, c)] (w.heap.size + 1 + 1) wx) (by kernel_rfl) ((unhide H1).drew) (fun HS => ?_)
          refine wpAnyH_take (i := 0) (oi := { dst := some 19, op := Op.load _ (Operand.tmp 4), type := _, pos := _, after := _, guard := none }) (v := .agg #[.int .i64 (a).1, .int .i64 (a).2]) rfl (by kernel_rfl) (by kernel_rfl) (by kernel_rfl) (fun _ _ _ h => h) (Or.inl ⟨by rfl, fun wx hx => by obtain ⟨c0, c1⟩ := hx.at (w.heap.size) (a) (by simp); go_simp⟩) HS ?_
          simp only [Act.put, List.setIfInBounds_toArray, List.set_cons_zero, List.set_cons_succ]
          refine wpAnyH_take (i := 1) (oi := { dst := some 20, op := Op.load _ (Operand.tmp 4), type := _, pos := _, after := _, guard := none }) (v := .agg #[.int .i64 (a).1, .int .i64 (a).2]) rfl (by kernel_rfl) (by kernel_rfl) (by kernel_rfl) (fun _ _ _ h => h) (Or.inl ⟨by rfl, fun wx hx => by obtain ⟨c0, c1⟩ := hx.at (w.heap.size) (a) (by simp); go_simp⟩) HS ?_
          simp only [Act.put, List.setIfInBounds_toArray, List.set_cons_zero, List.set_cons_succ]
          refine wpAnyH_take (i := 2) (oi := { dst := some 21, op := Op.load _ (Operand.tmp 5), type := _, pos := _, after := _, guard := none }) (v := .agg #[.int .i64 (c).1, .int .i64 (c).2]) rfl (by kernel_rfl) (by kernel_rfl) (by kernel_rfl) (fun _ _ _ h => h) (Or.inl ⟨by rfl, fun wx hx => by obtain ⟨c0, c1⟩ := hx.at (w.heap.size + 1) (c) (by simp); go_simp⟩) HS ?_
          simp only [Act.put, List.setIfInBounds_toArray, List.set_cons_zero, List.set_cons_succ]
          refine wpAnyH_take (i := 3) (oi := { dst := some 22, op := Op.binOp BinOp.eql _ (Operand.tmp 20) (Operand.tmp 21) _, type := _, pos := _, after := _, guard := none }) (v := .bool (false)) rfl (by kernel_rfl) (by kernel_rfl) (by kernel_rfl) (fun _ _ _ h => h) (Or.inl ⟨by rfl, fun wx hx => by go_simp⟩) HS ?_
          simp only [Act.put, List.setIfInBounds_toArray, List.set_cons_zero, List.set_cons_succ]
          refine wpAnyH_take (i := 4) (oi := { dst := some 23, op := Op.move (Operand.tmp 22), type := _, pos := _, after := _, guard := none }) (v := .bool (false)) rfl (by kernel_rfl) (by kernel_rfl) (by kernel_rfl) (fun _ _ _ h => h) (Or.inl ⟨by rfl, fun wx hx => by go_simp⟩) HS ?_
          simp only [Act.put, List.setIfInBounds_toArray, List.set_cons_zero, List.set_cons_succ]
          refine wpAnyH_take (i := 5) (oi := { dst := some 24, op := Op.load _ (Operand.tmp 4), type := _, pos := _, after := _, guard := some (4, true) }) (v := undef) rfl (by kernel_rfl) (by kernel_rfl) (by kernel_rfl) (fun _ _ _ h => h) (Or.inr ⟨by rfl, rfl⟩) HS ?_
          simp only [Act.put, List.setIfInBounds_toArray, List.set_cons_zero, List.set_cons_succ]
          refine wpAnyH_take (i := 6) (oi := { dst := some 25, op := Op.call { callee := Callee.value (Operand.func _), args := #[Operand.tmp 24], argTypes := _ }, type := _, pos := _, after := _, guard := some (4, true) }) (v := undef) rfl (by kernel_rfl) (by kernel_rfl) (by kernel_rfl) (fun _ _ _ h => h) (Or.inr ⟨by rfl, rfl⟩) HS ?_
          simp only [Act.put, List.setIfInBounds_toArray, List.set_cons_zero, List.set_cons_succ]
          refine wpAnyH_take (i := 7) (oi := { dst := some 26, op := Op.pick (Operand.tmp 23) (Operand.tmp 25) (Operand.const (Value.bool false)), type := _, pos := _, after := _, guard := none }) (v := .bool (false)) rfl (by kernel_rfl) (by kernel_rfl) (by kernel_rfl) (fun _ _ _ h => h) (Or.inl ⟨by rfl, fun wx hx => by go_simp⟩) HS ?_
          simp only [Act.put, List.setIfInBounds_toArray, List.set_cons_zero, List.set_cons_succ]
          refine wpAnyH_ready (rs := [8]) (by kernel_rfl) (by simp) (AllReadyH.cons (o := { dst := some 27, op := Op.call { callee := Callee.value (Operand.func _), args := #[Operand.tmp 19, Operand.tmp 26], argTypes := _ }, type := _, pos := _, after := _, guard := none }) rfl (fun KK hK => ?_) AllReadyH.nil)
          go_simp
          refine (comes_any (a) (false) _).mono ?_
          rintro e ws ⟨rfl, hxs⟩
          have HS2 := Reg.ext hxs HS
          clear hxs HS
          have HS := HS2
          clear HS2
          refine hK.out _ _ HS (fun _ => ?_)
          clear hK KK
          try simp only [Act.put, List.setIfInBounds_toArray, List.set_cons_zero, List.set_cons_succ]
          refine wpAnyH_take (i := 9) (oi := { dst := some 28, op := Op.extract (Operand.tmp 27) 0, type := _, pos := _, after := _, guard := none }) (v := .agg #[.int .i64 ((comP (a) (false)).1).1, .int .i64 ((comP (a) (false)).1).2]) rfl (by kernel_rfl) (by kernel_rfl) (by kernel_rfl) (fun _ _ _ h => h) (Or.inl ⟨by rfl, fun wx hx => by go_simp⟩) HS ?_
          simp only [Act.put, List.setIfInBounds_toArray, List.set_cons_zero, List.set_cons_succ]
          refine wpAnyH_take (i := 10) (oi := { dst := some 29, op := Op.extract (Operand.tmp 27) 1, type := _, pos := _, after := _, guard := none }) (v := .int .i64 ((comP (a) (false)).2)) rfl (by kernel_rfl) (by kernel_rfl) (by kernel_rfl) (fun _ _ _ h => h) (Or.inl ⟨by rfl, fun wx hx => by go_simp⟩) HS ?_
          simp only [Act.put, List.setIfInBounds_toArray, List.set_cons_zero, List.set_cons_succ]
          refine wpAnyH_ready (rs := [11]) (by kernel_rfl) (by simp) (AllReadyH.cons (o := { dst := none, op := Op.store _ (Operand.tmp 6) (Operand.tmp 28), type := _, pos := _, after := _, guard := none }) rfl (fun KK hK => ?_) AllReadyH.nil)
          obtain ⟨x, y, r0, r1, z0, z1⟩ := HS.res
          have HF := hide (HS.fin (.int .i64 ((comP (a) (false)).1).1) (.int .i64 ((comP (a) (false)).1).2))
          go_simp
          refine hK.out _ _ (Reg.put HS (.int .i64 ((comP (a) (false)).1).1) (.int .i64 ((comP (a) (false)).1).2)) (fun _ => ?_)
          have HS2 := Reg.put HS (.int .i64 ((comP (a) (false)).1).1) (.int .i64 ((comP (a) (false)).1).2)
          clear hK KK HS
          have HS := HS2
          clear HS2
          try simp only [Act.put, List.setIfInBounds_toArray, List.set_cons_zero, List.set_cons_succ]
          refine wpAnyH_take (i := 12) (oi := { dst := some 7, op := Op.assign (Operand.tmp 29), type := _, pos := _, after := _, guard := none }) (v := .int .i64 ((comP (a) (false)).2)) rfl (by kernel_rfl) (by kernel_rfl) (by kernel_rfl) (fun _ _ _ h => h) (Or.inl ⟨by rfl, fun wx hx => by go_simp⟩) HS ?_
          simp only [Act.put, List.setIfInBounds_toArray, List.set_cons_zero, List.set_cons_succ]
          refine wpAnyH_done (by kernel_rfl) ?_ _
          refine NoPanic.normal ?_
          go_wp2
          obtain ⟨s0, s1⟩ := (unhide HF).1.two
          exact bodyPost_ret (v := .tuple #[.agg #[.int .i64 ((comP (a) (false)).1).1, .int .i64 ((comP (a) (false)).1).2], .int .i64 (comP (a) (false)).2]) (by simp [results, Try.results19, go_sem, s0, s1]) rfl ⟨rfl, (unhide HF).2⟩
    · have f1 : (o == [61]) = false := beq_eq_false_iff_ne.2 e1
      rw [if_neg (by rw [f1]; decide)] at hU
      clear e1
      by_cases h5 : o ∈ op5
      · rw [if_pos (by simpa using h5)] at hU
        unfold op5 at h5
        simp only [List.mem_cons, List.not_mem_nil, or_false] at h5
        rcases h5 with rfl | rfl | rfl | rfl <;>
        · clear f1
          have HTG := hide (together_any a c)
          generalize togB a c = g at *
          generalize sumT a c = S at *
          have q0 := unhide (H1)
          obtain ⟨c0, c1⟩ := (unhide H1).at (w.heap.size) a (by simp)
          obtain ⟨d0, d1⟩ := (unhide H1).at (w.heap.size + 1) c (by simp)
          clear q0
          go_wp2_with fail
          refine (unhide HTG _).mono ?_
          rintro e w2 ⟨rfl, hx2⟩
          have H3 := hide ((Reg.ext hx2 (unhide H1)).add S)
          clear hx2 HTG c0 c1 d0 d1 H1
          go_upto_region 11 with fail
          generalize w2.alloc (.cells #[.int .i64 (S).1, .int .i64 (S).2] 23) = w3 at H3 ⊢
          generalize w2.heap.size = r at *
          cases hg : g with
          | false =>
            subst hg
            rw [Bool.false_and] at hU
            subst hU
            go_upto_region 11 with fail
            refine wp_region_noPanic ?_
            refine wp_region_held_drew (S := fun wx => Reg w [(r, S), (w.heap.size, a), (w.heap.size + 1, c)] (w.heap.size + 1 + 1) wx) (by kernel_rfl) ((unhide H3).drew) (fun HS => ?_)
            refine wpAnyH_take (i := 0) (oi := { dst := some 41, op := Op.load _ (Operand.tmp 4), type := _, pos := _, after := _, guard := none }) (v := .agg #[.int .i64 (a).1, .int .i64 (a).2]) rfl (by kernel_rfl) (by kernel_rfl) (by kernel_rfl) (fun _ _ _ h => h) (Or.inl ⟨by rfl, fun wx hx => by obtain ⟨c0, c1⟩ := hx.at (w.heap.size) (a) (by simp); go_simp⟩) HS ?_
            simp only [Act.put, List.setIfInBounds_toArray, List.set_cons_zero, List.set_cons_succ]
            refine wpAnyH_take (i := 1) (oi := { dst := some 42, op := Op.move (Operand.tmp 9), type := _, pos := _, after := _, guard := none }) (v := .bool (false)) rfl (by kernel_rfl) (by kernel_rfl) (by kernel_rfl) (fun _ _ _ h => h) (Or.inl ⟨by rfl, fun wx hx => by go_simp⟩) HS ?_
            simp only [Act.put, List.setIfInBounds_toArray, List.set_cons_zero, List.set_cons_succ]
            refine wpAnyH_take (i := 2) (oi := { dst := some 43, op := Op.move (Operand.tmp 42), type := _, pos := _, after := _, guard := none }) (v := .bool (false)) rfl (by kernel_rfl) (by kernel_rfl) (by kernel_rfl) (fun _ _ _ h => h) (Or.inl ⟨by rfl, fun wx hx => by go_simp⟩) HS ?_
            simp only [Act.put, List.setIfInBounds_toArray, List.set_cons_zero, List.set_cons_succ]
            refine wpAnyH_take (i := 3) (oi := { dst := some 44, op := Op.load _ (Operand.tmp 8), type := _, pos := _, after := _, guard := some (2, true) }) (v := undef) rfl (by kernel_rfl) (by kernel_rfl) (by kernel_rfl) (fun _ _ _ h => h) (Or.inr ⟨by rfl, rfl⟩) HS ?_
            simp only [Act.put, List.setIfInBounds_toArray, List.set_cons_zero, List.set_cons_succ]
            refine wpAnyH_take (i := 4) (oi := { dst := some 45, op := Op.load _ (Operand.tmp 4), type := _, pos := _, after := _, guard := some (2, true) }) (v := undef) rfl (by kernel_rfl) (by kernel_rfl) (by kernel_rfl) (fun _ _ _ h => h) (Or.inr ⟨by rfl, rfl⟩) HS ?_
            simp only [Act.put, List.setIfInBounds_toArray, List.set_cons_zero, List.set_cons_succ]
            refine wpAnyH_take (i := 5) (oi := { dst := some 46, op := Op.binOp BinOp.eql _ (Operand.tmp 44) (Operand.tmp 45) _, type := _, pos := _, after := _, guard := some (2, true) }) (v := undef) rfl (by kernel_rfl) (by kernel_rfl) (by kernel_rfl) (fun _ _ _ h => h) (Or.inr ⟨by rfl, rfl⟩) HS ?_
            simp only [Act.put, List.setIfInBounds_toArray, List.set_cons_zero, List.set_cons_succ]
            refine wpAnyH_take (i := 6) (oi := { dst := some 47, op := Op.pick (Operand.tmp 43) (Operand.tmp 46) (Operand.const (Value.bool false)), type := _, pos := _, after := _, guard := none }) (v := .bool (false)) rfl (by kernel_rfl) (by kernel_rfl) (by kernel_rfl) (fun _ _ _ h => h) (Or.inl ⟨by rfl, fun wx hx => by go_simp⟩) HS ?_
            simp only [Act.put, List.setIfInBounds_toArray, List.set_cons_zero, List.set_cons_succ]
            refine wpAnyH_ready (rs := [7]) (by kernel_rfl) (by simp) (AllReadyH.cons (o := { dst := some 48, op := Op.call { callee := Callee.value (Operand.func _), args := #[Operand.tmp 41, Operand.tmp 47], argTypes := _ }, type := _, pos := _, after := _, guard := none }) rfl (fun KK hK => ?_) AllReadyH.nil)
            go_simp
            refine (comes_any (a) (false) _).mono ?_
            rintro e ws ⟨rfl, hxs⟩
            have HS2 := Reg.ext hxs HS
            clear hxs HS
            have HS := HS2
            clear HS2
            refine hK.out _ _ HS (fun _ => ?_)
            clear hK KK
            try simp only [Act.put, List.setIfInBounds_toArray, List.set_cons_zero, List.set_cons_succ]
            refine wpAnyH_take (i := 8) (oi := { dst := some 49, op := Op.extract (Operand.tmp 48) 0, type := _, pos := _, after := _, guard := none }) (v := .agg #[.int .i64 ((comP (a) (false)).1).1, .int .i64 ((comP (a) (false)).1).2]) rfl (by kernel_rfl) (by kernel_rfl) (by kernel_rfl) (fun _ _ _ h => h) (Or.inl ⟨by rfl, fun wx hx => by go_simp⟩) HS ?_
            simp only [Act.put, List.setIfInBounds_toArray, List.set_cons_zero, List.set_cons_succ]
            refine wpAnyH_take (i := 9) (oi := { dst := some 50, op := Op.extract (Operand.tmp 48) 1, type := _, pos := _, after := _, guard := none }) (v := .int .i64 ((comP (a) (false)).2)) rfl (by kernel_rfl) (by kernel_rfl) (by kernel_rfl) (fun _ _ _ h => h) (Or.inl ⟨by rfl, fun wx hx => by go_simp⟩) HS ?_
            simp only [Act.put, List.setIfInBounds_toArray, List.set_cons_zero, List.set_cons_succ]
            refine wpAnyH_ready (rs := [10]) (by kernel_rfl) (by simp) (AllReadyH.cons (o := { dst := none, op := Op.store _ (Operand.tmp 6) (Operand.tmp 49), type := _, pos := _, after := _, guard := none }) rfl (fun KK hK => ?_) AllReadyH.nil)
            obtain ⟨x, y, r0, r1, z0, z1⟩ := HS.res
            have HF := hide (HS.fin (.int .i64 ((comP (a) (false)).1).1) (.int .i64 ((comP (a) (false)).1).2))
            go_simp
            refine hK.out _ _ (Reg.put HS (.int .i64 ((comP (a) (false)).1).1) (.int .i64 ((comP (a) (false)).1).2)) (fun _ => ?_)
            have HS2 := Reg.put HS (.int .i64 ((comP (a) (false)).1).1) (.int .i64 ((comP (a) (false)).1).2)
            clear hK KK HS
            have HS := HS2
            clear HS2
            try simp only [Act.put, List.setIfInBounds_toArray, List.set_cons_zero, List.set_cons_succ]
            refine wpAnyH_take (i := 11) (oi := { dst := some 7, op := Op.assign (Operand.tmp 50), type := _, pos := _, after := _, guard := none }) (v := .int .i64 ((comP (a) (false)).2)) rfl (by kernel_rfl) (by kernel_rfl) (by kernel_rfl) (fun _ _ _ h => h) (Or.inl ⟨by rfl, fun wx hx => by go_simp⟩) HS ?_
            simp only [Act.put, List.setIfInBounds_toArray, List.set_cons_zero, List.set_cons_succ]
            refine wpAnyH_done (by kernel_rfl) ?_ _
            refine NoPanic.normal ?_
            go_wp2
            obtain ⟨s0, s1⟩ := (unhide HF).1.two
            exact bodyPost_ret (v := .tuple #[.agg #[.int .i64 ((comP (a) (false)).1).1, .int .i64 ((comP (a) (false)).1).2], .int .i64 (comP (a) (false)).2]) (by simp [results, Try.results19, go_sem, s0, s1]) rfl ⟨rfl, (unhide HF).2⟩
          | true =>
            subst hg
            rw [Bool.true_and] at hU
            cases hq : eqT S a with
            | true =>
              rw [hq] at hU
              obtain ⟨q1, q2⟩ := eqT_true hq
              subst hU
              go_upto_region 11 with fail
              refine wp_region_noPanic ?_
              refine wp_region_held_drew (S := fun wx => Reg w [(r, S), (w.heap.size, a), (w.heap.size + 1, c)] (w.heap.size + 1 + 1) wx) (by kernel_rfl) ((unhide H3).drew) (fun HS => ?_)
              refine wpAnyH_take (i := 0) (oi := { dst := some 41, op := Op.load _ (Operand.tmp 4), type := _, pos := _, after := _, guard := none }) (v := .agg #[.int .i64 (a).1, .int .i64 (a).2]) rfl (by kernel_rfl) (by kernel_rfl) (by kernel_rfl) (fun _ _ _ h => h) (Or.inl ⟨by rfl, fun wx hx => by obtain ⟨c0, c1⟩ := hx.at (w.heap.size) (a) (by simp); go_simp⟩) HS ?_
              simp only [Act.put, List.setIfInBounds_toArray, List.set_cons_zero, List.set_cons_succ]
              refine wpAnyH_take (i := 1) (oi := { dst := some 42, op := Op.move (Operand.tmp 9), type := _, pos := _, after := _, guard := none }) (v := .bool (true)) rfl (by kernel_rfl) (by kernel_rfl) (by kernel_rfl) (fun _ _ _ h => h) (Or.inl ⟨by rfl, fun wx hx => by go_simp⟩) HS ?_
              simp only [Act.put, List.setIfInBounds_toArray, List.set_cons_zero, List.set_cons_succ]
              refine wpAnyH_take (i := 2) (oi := { dst := some 43, op := Op.move (Operand.tmp 42), type := _, pos := _, after := _, guard := none }) (v := .bool (true)) rfl (by kernel_rfl) (by kernel_rfl) (by kernel_rfl) (fun _ _ _ h => h) (Or.inl ⟨by rfl, fun wx hx => by go_simp⟩) HS ?_
              simp only [Act.put, List.setIfInBounds_toArray, List.set_cons_zero, List.set_cons_succ]
              refine wpAnyH_take (i := 3) (oi := { dst := some 44, op := Op.load _ (Operand.tmp 8), type := _, pos := _, after := _, guard := some (2, true) }) (v := .agg #[.int .i64 (S).1, .int .i64 (S).2]) rfl (by kernel_rfl) (by kernel_rfl) (by kernel_rfl) (fun _ _ _ h => h) (Or.inl ⟨by rfl, fun wx hx => by obtain ⟨c0, c1⟩ := hx.at (r) (S) (by simp); go_simp⟩) HS ?_
              simp only [Act.put, List.setIfInBounds_toArray, List.set_cons_zero, List.set_cons_succ]
              refine wpAnyH_take (i := 4) (oi := { dst := some 45, op := Op.load _ (Operand.tmp 4), type := _, pos := _, after := _, guard := some (2, true) }) (v := .agg #[.int .i64 (a).1, .int .i64 (a).2]) rfl (by kernel_rfl) (by kernel_rfl) (by kernel_rfl) (fun _ _ _ h => h) (Or.inl ⟨by rfl, fun wx hx => by obtain ⟨c0, c1⟩ := hx.at (w.heap.size) (a) (by simp); go_simp⟩) HS ?_
              simp only [Act.put, List.setIfInBounds_toArray, List.set_cons_zero, List.set_cons_succ]
              refine wpAnyH_take (i := 5) (oi := { dst := some 46, op := Op.binOp BinOp.eql _ (Operand.tmp 44) (Operand.tmp 45) _, type := _, pos := _, after := _, guard := some (2, true) }) (v := .bool (true)) rfl (by kernel_rfl) (by kernel_rfl) (by kernel_rfl) (fun _ _ _ h => h) (Or.inl ⟨by rfl, fun wx hx => by go_simp⟩) HS ?_
              simp only [Act.put, List.setIfInBounds_toArray, List.set_cons_zero, List.set_cons_succ]
              refine wpAnyH_take (i := 6) (oi := { dst := some 47, op := Op.pick (Operand.tmp 43) (Operand.tmp 46) (Operand.const (Value.bool false)), type := _, pos := _, after := _, guard := none }) (v := .bool (true)) rfl (by kernel_rfl) (by kernel_rfl) (by kernel_rfl) (fun _ _ _ h => h) (Or.inl ⟨by rfl, fun wx hx => by go_simp⟩) HS ?_
              simp only [Act.put, List.setIfInBounds_toArray, List.set_cons_zero, List.set_cons_succ]
              refine wpAnyH_ready (rs := [7]) (by kernel_rfl) (by simp) (AllReadyH.cons (o := { dst := some 48, op := Op.call { callee := Callee.value (Operand.func _), args := #[Operand.tmp 41, Operand.tmp 47], argTypes := _ }, type := _, pos := _, after := _, guard := none }) rfl (fun KK hK => ?_) AllReadyH.nil)
              go_simp
              refine (comes_any (a) (true) _).mono ?_
              rintro e ws ⟨rfl, hxs⟩
              have HS2 := Reg.ext hxs HS
              clear hxs HS
              have HS := HS2
              clear HS2
              refine hK.out _ _ HS (fun _ => ?_)
              clear hK KK
              try simp only [Act.put, List.setIfInBounds_toArray, List.set_cons_zero, List.set_cons_succ]
              refine wpAnyH_take (i := 8) (oi := { dst := some 49, op := Op.extract (Operand.tmp 48) 0, type := _, pos := _, after := _, guard := none }) (v := .agg #[.int .i64 ((comP (a) (true)).1).1, .int .i64 ((comP (a) (true)).1).2]) rfl (by kernel_rfl) (by kernel_rfl) (by kernel_rfl) (fun _ _ _ h => h) (Or.inl ⟨by rfl, fun wx hx => by go_simp⟩) HS ?_
              simp only [Act.put, List.setIfInBounds_toArray, List.set_cons_zero, List.set_cons_succ]
              refine wpAnyH_take (i := 9) (oi := { dst := some 50, op := Op.extract (Operand.tmp 48) 1, type := _, pos := _, after := _, guard := none }) (v := .int .i64 ((comP (a) (true)).2)) rfl (by kernel_rfl) (by kernel_rfl) (by kernel_rfl) (fun _ _ _ h => h) (Or.inl ⟨by rfl, fun wx hx => by go_simp⟩) HS ?_
              simp only [Act.put, List.setIfInBounds_toArray, List.set_cons_zero, List.set_cons_succ]
              refine wpAnyH_ready (rs := [10]) (by kernel_rfl) (by simp) (AllReadyH.cons (o := { dst := none, op := Op.store _ (Operand.tmp 6) (Operand.tmp 49), type := _, pos := _, after := _, guard := none }) rfl (fun KK hK => ?_) AllReadyH.nil)
              obtain ⟨x, y, r0, r1, z0, z1⟩ := HS.res
              have HF := hide (HS.fin (.int .i64 ((comP (a) (true)).1).1) (.int .i64 ((comP (a) (true)).1).2))
              go_simp
              refine hK.out _ _ (Reg.put HS (.int .i64 ((comP (a) (true)).1).1) (.int .i64 ((comP (a) (true)).1).2)) (fun _ => ?_)
              have HS2 := Reg.put HS (.int .i64 ((comP (a) (true)).1).1) (.int .i64 ((comP (a) (true)).1).2)
              clear hK KK HS
              have HS := HS2
              clear HS2
              try simp only [Act.put, List.setIfInBounds_toArray, List.set_cons_zero, List.set_cons_succ]
              refine wpAnyH_take (i := 11) (oi := { dst := some 7, op := Op.assign (Operand.tmp 50), type := _, pos := _, after := _, guard := none }) (v := .int .i64 ((comP (a) (true)).2)) rfl (by kernel_rfl) (by kernel_rfl) (by kernel_rfl) (fun _ _ _ h => h) (Or.inl ⟨by rfl, fun wx hx => by go_simp⟩) HS ?_
              simp only [Act.put, List.setIfInBounds_toArray, List.set_cons_zero, List.set_cons_succ]
              refine wpAnyH_done (by kernel_rfl) ?_ _
              refine NoPanic.normal ?_
              go_wp2
              obtain ⟨s0, s1⟩ := (unhide HF).1.two
              exact bodyPost_ret (v := .tuple #[.agg #[.int .i64 ((comP (a) (true)).1).1, .int .i64 ((comP (a) (true)).1).2], .int .i64 (comP (a) (true)).2]) (by simp [results, Try.results19, go_sem, s0, s1]) rfl ⟨rfl, (unhide HF).2⟩
            | false =>
              rw [hq] at hU
              rcases eqT_cases hq with q1 | ⟨q1, q2⟩ <;>
              · clear hq
                subst hU
                go_upto_region 11 with fail
                refine wp_region_noPanic ?_
                refine wp_region_held_drew (S := fun wx => Reg w [(r, S), (w.heap.size, a), (w.heap.size + 1, c)] (w.heap.size + 1 + 1) wx) (by kernel_rfl) ((unhide H3).drew) (fun HS => ?_)
                refine wpAnyH_take (i := 0) (oi := { dst := some 41, op := Op.load _ (Operand.tmp 4), type := _, pos := _, after := _, guard := none }) (v := .agg #[.int .i64 (a).1, .int .i64 (a).2]) rfl (by kernel_rfl) (by kernel_rfl) (by kernel_rfl) (fun _ _ _ h => h) (Or.inl ⟨by rfl, fun wx hx => by obtain ⟨c0, c1⟩ := hx.at (w.heap.size) (a) (by simp); go_simp⟩) HS ?_
                simp only [Act.put, List.setIfInBounds_toArray, List.set_cons_zero, List.set_cons_succ]
                refine wpAnyH_take (i := 1) (oi := { dst := some 42, op := Op.move (Operand.tmp 9), type := _, pos := _, after := _, guard := none }) (v := .bool (true)) rfl (by kernel_rfl) (by kernel_rfl) (by kernel_rfl) (fun _ _ _ h => h) (Or.inl ⟨by rfl, fun wx hx => by go_simp⟩) HS ?_
                simp only [Act.put, List.setIfInBounds_toArray, List.set_cons_zero, List.set_cons_succ]
                refine wpAnyH_take (i := 2) (oi := { dst := some 43, op := Op.move (Operand.tmp 42), type := _, pos := _, after := _, guard := none }) (v := .bool (true)) rfl (by kernel_rfl) (by kernel_rfl) (by kernel_rfl) (fun _ _ _ h => h) (Or.inl ⟨by rfl, fun wx hx => by go_simp⟩) HS ?_
                simp only [Act.put, List.setIfInBounds_toArray, List.set_cons_zero, List.set_cons_succ]
                refine wpAnyH_take (i := 3) (oi := { dst := some 44, op := Op.load _ (Operand.tmp 8), type := _, pos := _, after := _, guard := some (2, true) }) (v := .agg #[.int .i64 (S).1, .int .i64 (S).2]) rfl (by kernel_rfl) (by kernel_rfl) (by kernel_rfl) (fun _ _ _ h => h) (Or.inl ⟨by rfl, fun wx hx => by obtain ⟨c0, c1⟩ := hx.at (r) (S) (by simp); go_simp⟩) HS ?_
                simp only [Act.put, List.setIfInBounds_toArray, List.set_cons_zero, List.set_cons_succ]
                refine wpAnyH_take (i := 4) (oi := { dst := some 45, op := Op.load _ (Operand.tmp 4), type := _, pos := _, after := _, guard := some (2, true) }) (v := .agg #[.int .i64 (a).1, .int .i64 (a).2]) rfl (by kernel_rfl) (by kernel_rfl) (by kernel_rfl) (fun _ _ _ h => h) (Or.inl ⟨by rfl, fun wx hx => by obtain ⟨c0, c1⟩ := hx.at (w.heap.size) (a) (by simp); go_simp⟩) HS ?_
                simp only [Act.put, List.setIfInBounds_toArray, List.set_cons_zero, List.set_cons_succ]
                refine wpAnyH_take (i := 5) (oi := { dst := some 46, op := Op.binOp BinOp.eql _ (Operand.tmp 44) (Operand.tmp 45) _, type := _, pos := _, after := _, guard := some (2, true) }) (v := .bool (false)) rfl (by kernel_rfl) (by kernel_rfl) (by kernel_rfl) (fun _ _ _ h => h) (Or.inl ⟨by rfl, fun wx hx => by go_simp⟩) HS ?_
                simp only [Act.put, List.setIfInBounds_toArray, List.set_cons_zero, List.set_cons_succ]
                refine wpAnyH_take (i := 6) (oi := { dst := some 47, op := Op.pick (Operand.tmp 43) (Operand.tmp 46) (Operand.const (Value.bool false)), type := _, pos := _, after := _, guard := none }) (v := .bool (false)) rfl (by kernel_rfl) (by kernel_rfl) (by kernel_rfl) (fun _ _ _ h => h) (Or.inl ⟨by rfl, fun wx hx => by go_simp⟩) HS ?_
                simp only [Act.put, List.setIfInBounds_toArray, List.set_cons_zero, List.set_cons_succ]
                refine wpAnyH_ready (rs := [7]) (by kernel_rfl) (by simp) (AllReadyH.cons (o := { dst := some 48, op := Op.call { callee := Callee.value (Operand.func _), args := #[Operand.tmp 41, Operand.tmp 47], argTypes := _ }, type := _, pos := _, after := _, guard := none }) rfl (fun KK hK => ?_) AllReadyH.nil)
                go_simp
                refine (comes_any (a) (false) _).mono ?_
                rintro e ws ⟨rfl, hxs⟩
                have HS2 := Reg.ext hxs HS
                clear hxs HS
                have HS := HS2
                clear HS2
                refine hK.out _ _ HS (fun _ => ?_)
                clear hK KK
                try simp only [Act.put, List.setIfInBounds_toArray, List.set_cons_zero, List.set_cons_succ]
                refine wpAnyH_take (i := 8) (oi := { dst := some 49, op := Op.extract (Operand.tmp 48) 0, type := _, pos := _, after := _, guard := none }) (v := .agg #[.int .i64 ((comP (a) (false)).1).1, .int .i64 ((comP (a) (false)).1).2]) rfl (by kernel_rfl) (by kernel_rfl) (by kernel_rfl) (fun _ _ _ h => h) (Or.inl ⟨by rfl, fun wx hx => by go_simp⟩) HS ?_
                simp only [Act.put, List.setIfInBounds_toArray, List.set_cons_zero, List.set_cons_succ]
                refine wpAnyH_take (i := 9) (oi := { dst := some 50, op := Op.extract (Operand.tmp 48) 1, type := _, pos := _, after := _, guard := none }) (v := .int .i64 ((comP (a) (false)).2)) rfl (by kernel_rfl) (by kernel_rfl) (by kernel_rfl) (fun _ _ _ h => h) (Or.inl ⟨by rfl, fun wx hx => by go_simp⟩) HS ?_
                simp only [Act.put, List.setIfInBounds_toArray, List.set_cons_zero, List.set_cons_succ]
                refine wpAnyH_ready (rs := [10]) (by kernel_rfl) (by simp) (AllReadyH.cons (o := { dst := none, op := Op.store _ (Operand.tmp 6) (Operand.tmp 49), type := _, pos := _, after := _, guard := none }) rfl (fun KK hK => ?_) AllReadyH.nil)
                obtain ⟨x, y, r0, r1, z0, z1⟩ := HS.res
                have HF := hide (HS.fin (.int .i64 ((comP (a) (false)).1).1) (.int .i64 ((comP (a) (false)).1).2))
                go_simp
                refine hK.out _ _ (Reg.put HS (.int .i64 ((comP (a) (false)).1).1) (.int .i64 ((comP (a) (false)).1).2)) (fun _ => ?_)
                have HS2 := Reg.put HS (.int .i64 ((comP (a) (false)).1).1) (.int .i64 ((comP (a) (false)).1).2)
                clear hK KK HS
                have HS := HS2
                clear HS2
                try simp only [Act.put, List.setIfInBounds_toArray, List.set_cons_zero, List.set_cons_succ]
                refine wpAnyH_take (i := 11) (oi := { dst := some 7, op := Op.assign (Operand.tmp 50), type := _, pos := _, after := _, guard := none }) (v := .int .i64 ((comP (a) (false)).2)) rfl (by kernel_rfl) (by kernel_rfl) (by kernel_rfl) (fun _ _ _ h => h) (Or.inl ⟨by rfl, fun wx hx => by go_simp⟩) HS ?_
                simp only [Act.put, List.setIfInBounds_toArray, List.set_cons_zero, List.set_cons_succ]
                refine wpAnyH_done (by kernel_rfl) ?_ _
                refine NoPanic.normal ?_
                go_wp2
                obtain ⟨s0, s1⟩ := (unhide HF).1.two
                exact bodyPost_ret (v := .tuple #[.agg #[.int .i64 ((comP (a) (false)).1).1, .int .i64 ((comP (a) (false)).1).2], .int .i64 (comP (a) (false)).2]) (by simp [results, Try.results19, go_sem, s0, s1]) rfl ⟨rfl, (unhide HF).2⟩
      · rw [if_neg (by simpa using h5)] at hU
        subst hU
        have f2 : ∀ x ∈ op5, (o == x) = false := fun x hx => beq_eq_false_iff_ne.2 (fun e => h5 (by subst e; exact hx))
        have g0 := f2 [43, 61] (by decide)
        have g1 := f2 [45, 61] (by decide)
        have g2 := f2 [42, 61] (by decide)
        have g3 := f2 [47, 61] (by decide)
        clear f2 h5
        obtain ⟨x, y, r0, r1, z0, z1⟩ := (unhide H1).res
        have HF := hide ((unhide H1).fin (.int .i64 0) (.int .i64 0))
        go_wp2
        obtain ⟨s0, s1⟩ := (unhide HF).1.two
        exact bodyPost_ret (v := .tuple #[.agg #[.int .i64 (noT).1, .int .i64 (noT).2], .int .i64 4]) (by simp [results, Try.results19, go_sem, s0, s1, noT]) rfl ⟨rfl, (unhide HF).2⟩
end Go.Proofs.Ytokmplebajgckaa
