/-
  Types: what is held while a region draws its order; what comes of an operator ahead of a type. What the dump lacks is left out.
-/
import Derived.Test.YtokmplebajgckaaKC
import Derived.Deep.DeepCutAuto
namespace Go.Proofs.Ytokmplebajgckaa
open Go.RowKit
set_option linter.unusedVariables false
set_option linter.unusedSimpArgs false

/-- Types lie in their blocks, there is a block for the result, and nothing that was there has turned. -/
def Reg (w0 : World) (l : List (Nat × Ty)) (R : Nat) (wx : World) : Prop :=
  Ext w0 wx ∧ (∀ p ∈ l, Blk wx p.1 #[.int .i64 (p.2).1, .int .i64 (p.2).2] 23) ∧ (∃ x y, Blk wx R #[x, y] 23) ∧ w0.heap.size ≤ R ∧ ∀ p ∈ l, p.1 ≠ R
section
variable {w0 w1 w2 : World} {l : List (Nat × Ty)} {R : Nat}
theorem Reg.ext (hx : Ext w1 w2) (h : Reg w0 l R w1) : Reg w0 l R w2 := by
  obtain ⟨h0, h1, ⟨x, y, h2⟩, h3, h4⟩ := h
  exact ⟨h0.trans hx, fun p hp => (h1 p hp).ext hx, ⟨x, y, h2.ext hx⟩, h3, h4⟩
theorem Reg.drew (h : Reg w0 l R w1) : Reg w0 l R w1.drew := h.ext ((Ext.refl _).drew)
theorem Reg.put (h : Reg w0 l R w1) (p q : Value) : Reg w0 l R ((w1.setCell ⟨R, 0, none⟩ p).setCell ⟨R, 1, none⟩ q) := by
  obtain ⟨h0, h1, ⟨x, y, h2⟩, h3, h4⟩ := h
  exact ⟨ext_set2 h0 h3, fun z hz => ((h1 z hz).other 0 p (h4 z hz)).other 1 q (h4 z hz), ⟨p, q, h2.put2 p q⟩, h3, h4⟩
theorem Reg.at (h : Reg w0 l R w1) (b : Nat) (t : Ty) (hm : (b, t) ∈ l) : w1.cell? ⟨b, 0, none⟩ = some (.int .i64 t.1) ∧ w1.cell? ⟨b, 1, none⟩ = some (.int .i64 t.2) := (h.2.1 (b, t) hm).two
theorem Reg.res (h : Reg w0 l R w1) : ∃ x y, w1.cell? ⟨R, 0, none⟩ = some x ∧ w1.cell? ⟨R, 1, none⟩ = some y ∧ w1.frozen? ⟨R, 0, none⟩ = false ∧ w1.frozen? ⟨R, 1, none⟩ = false := by
  obtain ⟨h0, h1, ⟨x, y, h2⟩, h3, h4⟩ := h
  exact ⟨x, y, h2.two.1, h2.two.2, h2.free2.1, h2.free2.2⟩
theorem Reg.fin (h : Reg w0 l R w1) (p q : Value) : Blk ((w1.setCell ⟨R, 0, none⟩ p).setCell ⟨R, 1, none⟩ q) R #[p, q] 23 ∧ Ext w0 ((w1.setCell ⟨R, 0, none⟩ p).setCell ⟨R, 1, none⟩ q) := by
  obtain ⟨h0, h1, ⟨x, y, h2⟩, h3, h4⟩ := h
  exact ⟨h2.put2 p q, ext_set2 h0 h3⟩
end

/-- gen -/
theorem eqT_true {a c : Ty} (h : eqT a c = true) : (a.1 == c.1) = true ∧ (a.2 == c.2) = true := by
  unfold eqT at h
  simpa using h
theorem reg1 (w : World) (a : Ty) : Reg w [(w.heap.size, a)] (w.heap.size + 1) ((w.alloc (.cells #[.int .i64 (a).1, .int .i64 (a).2] 23)).alloc (.cells #[.int .i64 0, .int .i64 0] 23)) := by
  refine ⟨((Ext.refl w).alloc _).alloc _, ?_, ⟨_, _, Blk.at (by simp)⟩, by omega, ?_⟩
  · intro p hp
    obtain rfl : p = (w.heap.size, a) := by simpa using hp
    exact (Blk.at rfl).alloc _
  · intro p hp
    obtain rfl : p = (w.heap.size, a) := by simpa using hp
    exact (by simp : w.heap.size ≠ w.heap.size + 1)
theorem reg2 (w : World) (a c : Ty) : Reg w [(w.heap.size, a), (w.heap.size + 1, c)] (w.heap.size + 1 + 1) (((w.alloc (.cells #[.int .i64 (a).1, .int .i64 (a).2] 23)).alloc (.cells #[.int .i64 (c).1, .int .i64 (c).2] 23)).alloc (.cells #[.int .i64 0, .int .i64 0] 23)) := by
  refine ⟨(((Ext.refl w).alloc _).alloc _).alloc _, ?_, ⟨_, _, Blk.at (by simp)⟩, by omega, ?_⟩
  · intro p hp
    simp only [List.mem_cons, List.not_mem_nil, or_false] at hp
    rcases hp with rfl | rfl
    · exact ((Blk.at rfl).alloc _).alloc _
    · exact (Blk.at (by simp)).alloc _
  · intro p hp
    simp only [List.mem_cons, List.not_mem_nil, or_false] at hp
    rcases hp with rfl | rfl <;> dsimp only <;> omega
theorem reg3 (w : World) (c a d : Ty) : Reg w [(w.heap.size, c), (w.heap.size + 1, a), (w.heap.size + 1 + 1, d)] (w.heap.size + 1 + 1 + 1) ((((w.alloc (.cells #[.int .i64 (c).1, .int .i64 (c).2] 23)).alloc (.cells #[.int .i64 (a).1, .int .i64 (a).2] 23)).alloc (.cells #[.int .i64 (d).1, .int .i64 (d).2] 23)).alloc (.cells #[.int .i64 0, .int .i64 0] 23)) := by
  refine ⟨((((Ext.refl w).alloc _).alloc _).alloc _).alloc _, ?_, ⟨_, _, Blk.at (by simp)⟩, by omega, ?_⟩
  · intro p hp
    simp only [List.mem_cons, List.not_mem_nil, or_false] at hp
    rcases hp with rfl | rfl | rfl
    · exact (((Blk.at rfl).alloc _).alloc _).alloc _
    · exact ((Blk.at (by simp)).alloc _).alloc _
    · exact (Blk.at (by simp)).alloc _
  · intro p hp
    simp only [List.mem_cons, List.not_mem_nil, or_false] at hp
    rcases hp with rfl | rfl | rfl <;> dsimp only <;> omega

set_option maxHeartbeats 4000000 in
theorem unary_any (o : Byts8) (a : Ty) (w : World) :
    Calls Try.prog 17 #[.string ⟨o.toArray⟩, .agg #[.int .i64 (a).1, .int .i64 (a).2]] w fun e w' => e = .returned (.tuple #[.agg #[.int .i64 ((unaP o a).1).1, .int .i64 ((unaP o a).1).2], .int .i64 (unaP o a).2]) ∧ Ext w w' := by
  have H0 := hide (reg1 w a)
  have HM := hide (mayBe_any _ [a] _ (TyR.one (w := (w.alloc (.cells #[.int .i64 (a).1, .int .i64 (a).2] 23)).alloc (.cells #[.int .i64 0, .int .i64 0] 23)) (b := w.heap.size + 1 + 1) (by simp) a 23))
  obtain ⟨U, hU⟩ : ∃ U, unaP o a = U := ⟨_, rfl⟩
  rw [hU]
  unfold unaP at hU
  go_enter Try.func17, Try.ntmps17
  go_wp2_with fail
  refine (unhide HM).mono ?_
  rintro e w1 ⟨rfl, hx1⟩
  have H1 := hide (Reg.ext hx1 (Reg.ext ((Ext.refl _).alloc _) (unhide H0)))
  clear hx1 H0 HM
  rw [show [a].all mayP = mayP a by simp]
  cases hm : mayP a with
  | false =>
    rw [if_pos hm] at hU
    subst hU
    obtain ⟨x, y, r0, r1, z0, z1⟩ := (unhide H1).res
    have HF := hide ((unhide H1).fin (.int .i64 0) (.int .i64 0))
    go_wp2
    obtain ⟨s0, s1⟩ := (unhide HF).1.two
    exact bodyPost_ret (v := .tuple #[.agg #[.int .i64 (noT).1, .int .i64 (noT).2], .int .i64 2]) (by simp [results, Try.results17, go_sem, s0, s1, noT]) rfl ⟨rfl, (unhide HF).2⟩
  | true =>
    rw [if_neg (by rw [hm]; decide)] at hU
    clear hm
    by_cases e1 : o = [45]
    · subst e1
      rw [if_pos (by decide)] at hU
      subst hU
      go_upto_region 5 with fail
      have C0 : ∀ wx, Reg w [(w.heap.size, a)] (w.heap.size + 1) wx → wx.cell? ⟨w.heap.size, 0, none⟩ = some (.int .i64 (a).1) ∧ wx.cell? ⟨w.heap.size, 1, none⟩ = some (.int .i64 (a).2) := fun wx h => h.at _ _ (by simp)
      have hS : Reg w [(w.heap.size, a)] (w.heap.size + 1) w1.drew := (unhide H1).drew
      go_region_held3 (fun wx => Reg w [(w.heap.size, a)] (w.heap.size + 1) wx)
        (first | assumption | exact Reg.put (by assumption) _ _)
        (first
          | (go_at_call 31; refine (isNumber_any a _).mono ?_; rintro e ws ⟨rfl, hxs⟩; have hS := Reg.ext hxs (by assumption : Reg w [(w.heap.size, a)] (w.heap.size + 1) _))
          | (go_at_call 28; refine (comes_any (a) (numP a) _).mono ?_; rintro e ws ⟨rfl, hxs⟩; have hS := Reg.ext hxs (by assumption : Reg w [(w.heap.size, a)] (w.heap.size + 1) _); obtain ⟨x, y, r0, r1, z0, z1⟩ := hS.res; have HF := hide (hS.fin (.int .i64 (comP (a) (numP a)).1.1) (.int .i64 (comP (a) (numP a)).1.2))))
      go_wp2
      obtain ⟨s0, s1⟩ := (unhide HF).1.two
      exact bodyPost_ret (v := .tuple #[.agg #[.int .i64 ((comP (a) (numP a)).1).1, .int .i64 ((comP (a) (numP a)).1).2], .int .i64 (comP (a) (numP a)).2]) (by simp [results, Try.results17, go_sem, s0, s1]) rfl ⟨rfl, (unhide HF).2⟩
    · have f1 : (o == [45]) = false := beq_eq_false_iff_ne.2 e1
      rw [if_neg (by rw [f1]; decide)] at hU
      clear e1
      by_cases e2 : o = [33]
      · subst e2
        rw [if_pos (by decide)] at hU
        cases hq : eqT a truT with
        | true =>
          rw [hq] at hU
          have eq := eqT_iff.1 hq
          subst eq
          have q1 : ((truT).1 == (truT).1) = true := by simp
          have q2 : ((truT).2 == (truT).2) = true := by simp
          subst hU
          go_upto_region 7 with fail
          have C0 : ∀ wx, Reg w [(w.heap.size, truT)] (w.heap.size + 1) wx → wx.cell? ⟨w.heap.size, 0, none⟩ = some (.int .i64 (truT).1) ∧ wx.cell? ⟨w.heap.size, 1, none⟩ = some (.int .i64 (truT).2) := fun wx h => h.at _ _ (by simp)
          have hS : Reg w [(w.heap.size, truT)] (w.heap.size + 1) w1.drew := (unhide H1).drew
          go_region_held3 (fun wx => Reg w [(w.heap.size, truT)] (w.heap.size + 1) wx)
            (first | assumption | exact Reg.put (by assumption) _ _)
            (first
              | (go_at_call 30; refine (truth_any _).mono ?_; rintro e ws ⟨rfl, hxs⟩; have hS := Reg.ext hxs (by assumption : Reg w [(w.heap.size, truT)] (w.heap.size + 1) _))
              | (go_at_call 28; refine (comes_any (truT) (true) _).mono ?_; rintro e ws ⟨rfl, hxs⟩; have hS := Reg.ext hxs (by assumption : Reg w [(w.heap.size, truT)] (w.heap.size + 1) _); obtain ⟨x, y, r0, r1, z0, z1⟩ := hS.res; have HF := hide (hS.fin (.int .i64 (comP (truT) (true)).1.1) (.int .i64 (comP (truT) (true)).1.2))))
          go_wp2
          obtain ⟨s0, s1⟩ := (unhide HF).1.two
          exact bodyPost_ret (v := .tuple #[.agg #[.int .i64 ((comP (truT) (true)).1).1, .int .i64 ((comP (truT) (true)).1).2], .int .i64 (comP (truT) (true)).2]) (by simp [results, Try.results17, go_sem, s0, s1]) rfl ⟨rfl, (unhide HF).2⟩
        | false =>
          rw [hq] at hU
          rcases eqT_cases hq with q1 | ⟨q1, q2⟩ <;>
          · clear hq
            subst hU
            go_upto_region 7 with fail
            have C0 : ∀ wx, Reg w [(w.heap.size, a)] (w.heap.size + 1) wx → wx.cell? ⟨w.heap.size, 0, none⟩ = some (.int .i64 (a).1) ∧ wx.cell? ⟨w.heap.size, 1, none⟩ = some (.int .i64 (a).2) := fun wx h => h.at _ _ (by simp)
            have hS : Reg w [(w.heap.size, a)] (w.heap.size + 1) w1.drew := (unhide H1).drew
            go_region_held3 (fun wx => Reg w [(w.heap.size, a)] (w.heap.size + 1) wx)
              (first | assumption | exact Reg.put (by assumption) _ _)
              (first
                | (go_at_call 30; refine (truth_any _).mono ?_; rintro e ws ⟨rfl, hxs⟩; have hS := Reg.ext hxs (by assumption : Reg w [(w.heap.size, a)] (w.heap.size + 1) _))
                | (go_at_call 28; refine (comes_any (a) (false) _).mono ?_; rintro e ws ⟨rfl, hxs⟩; have hS := Reg.ext hxs (by assumption : Reg w [(w.heap.size, a)] (w.heap.size + 1) _); obtain ⟨x, y, r0, r1, z0, z1⟩ := hS.res; have HF := hide (hS.fin (.int .i64 (comP (a) (false)).1.1) (.int .i64 (comP (a) (false)).1.2))))
            go_wp2
            obtain ⟨s0, s1⟩ := (unhide HF).1.two
            exact bodyPost_ret (v := .tuple #[.agg #[.int .i64 ((comP (a) (false)).1).1, .int .i64 ((comP (a) (false)).1).2], .int .i64 (comP (a) (false)).2]) (by simp [results, Try.results17, go_sem, s0, s1]) rfl ⟨rfl, (unhide HF).2⟩
      · have f2 : (o == [33]) = false := beq_eq_false_iff_ne.2 e2
        rw [if_neg (by rw [f2]; decide)] at hU
        clear e2
        subst hU
        obtain ⟨x, y, r0, r1, z0, z1⟩ := (unhide H1).res
        have HF := hide ((unhide H1).fin (.int .i64 0) (.int .i64 0))
        go_wp2
        obtain ⟨s0, s1⟩ := (unhide HF).1.two
        exact bodyPost_ret (v := .tuple #[.agg #[.int .i64 (noT).1, .int .i64 (noT).2], .int .i64 4]) (by simp [results, Try.results17, go_sem, s0, s1, noT]) rfl ⟨rfl, (unhide HF).2⟩

set_option maxHeartbeats 4000000 in
theorem cond_any (c a d : Ty) (w : World) :
    Calls Try.prog 21 #[.agg #[.int .i64 (c).1, .int .i64 (c).2], .agg #[.int .i64 (a).1, .int .i64 (a).2], .agg #[.int .i64 (d).1, .int .i64 (d).2]] w fun e w' => e = .returned (.tuple #[.agg #[.int .i64 ((conP c a d).1).1, .int .i64 ((conP c a d).1).2], .int .i64 (conP c a d).2]) ∧ Ext w w' := by
  have H0 := hide (reg3 w c a d)
  have HM := hide (mayBe_any _ [c, a, d] _ (TyR.three (w := (((w.alloc (.cells #[.int .i64 (c).1, .int .i64 (c).2] 23)).alloc (.cells #[.int .i64 (a).1, .int .i64 (a).2] 23)).alloc (.cells #[.int .i64 (d).1, .int .i64 (d).2] 23)).alloc (.cells #[.int .i64 0, .int .i64 0] 23)) (b := w.heap.size + 1 + 1 + 1 + 1) (by simp) c a d 23))
  obtain ⟨U, hU⟩ : ∃ U, conP c a d = U := ⟨_, rfl⟩
  rw [hU]
  unfold conP at hU
  go_enter Try.func21, Try.ntmps21
  go_wp2_with fail
  refine (unhide HM).mono ?_
  rintro e w1 ⟨rfl, hx1⟩
  have H1 := hide (Reg.ext hx1 (Reg.ext ((Ext.refl _).alloc _) (unhide H0)))
  clear hx1 H0 HM
  rw [show [c, a, d].all mayP = (mayP c && (mayP a && mayP d)) by simp]
  cases hm : (mayP c && (mayP a && mayP d)) with
  | false =>
    rw [if_pos hm] at hU
    subst hU
    obtain ⟨x, y, r0, r1, z0, z1⟩ := (unhide H1).res
    have HF := hide ((unhide H1).fin (.int .i64 0) (.int .i64 0))
    go_wp2
    obtain ⟨s0, s1⟩ := (unhide HF).1.two
    exact bodyPost_ret (v := .tuple #[.agg #[.int .i64 (noT).1, .int .i64 (noT).2], .int .i64 2]) (by simp [results, Try.results21, go_sem, s0, s1, noT]) rfl ⟨rfl, (unhide HF).2⟩
  | true =>
    rw [if_neg (by rw [hm]; decide)] at hU
    clear hm
    cases hq : eqT c truT with
    | true =>
      rw [hq] at hU
      have eq := eqT_iff.1 hq
      subst eq
      have q1 : ((truT).1 == (truT).1) = true := by simp
      have q2 : ((truT).2 == (truT).2) = true := by simp
      cases hp : eqT a d with
      | true =>
        rw [hp] at hU
        have ep := eqT_iff.1 hp
        subst ep
        have p1 : ((a).1 == (a).1) = true := by simp
        have p2 : ((a).2 == (a).2) = true := by simp
        rw [Bool.true_and, Bool.true_and] at hU
        subst hU
        go_upto_region 3 with fail
        refine wp_region_noPanic ?_
        refine wp_region_held_drew (S := fun wx => Reg w [(w.heap.size, truT), (w.heap.size + 1, a), (w.heap.size + 1 + 1, a)] (w.heap.size + 1 + 1 + 1) wx) (by kernel_rfl) ((unhide H1).drew) (fun HS => ?_)
        refine wpAnyH_take (i := 0) (oi := { dst := some 15, op := Op.load _ (Operand.tmp 4), type := _, pos := _, after := _, guard := none }) (v := .agg #[.int .i64 (a).1, .int .i64 (a).2]) rfl (by kernel_rfl) (by kernel_rfl) (by kernel_rfl) (fun _ _ _ h => h) (Or.inl ⟨by rfl, fun wx hx => by obtain ⟨c0, c1⟩ := hx.at (w.heap.size + 1) (a) (by simp); go_simp⟩) HS ?_
        simp only [Act.put, List.setIfInBounds_toArray, List.set_cons_zero, List.set_cons_succ]
        refine wpAnyH_take (i := 1) (oi := { dst := some 16, op := Op.load _ (Operand.tmp 3), type := _, pos := _, after := _, guard := none }) (v := .agg #[.int .i64 (truT).1, .int .i64 (truT).2]) rfl (by kernel_rfl) (by kernel_rfl) (by kernel_rfl) (fun _ _ _ h => h) (Or.inl ⟨by rfl, fun wx hx => by obtain ⟨c0, c1⟩ := hx.at (w.heap.size) (truT) (by simp); go_simp⟩) HS ?_
        simp only [Act.put, List.setIfInBounds_toArray, List.set_cons_zero, List.set_cons_succ]
        refine wpAnyH_ready (rs := [2]) (by kernel_rfl) (by simp) (AllReadyH.cons (o := { dst := some 17, op := Op.call { callee := Callee.value (Operand.func _), args := #[], argTypes := _ }, type := _, pos := _, after := _, guard := none }) rfl (fun KK hK => ?_) AllReadyH.nil)
        go_simp
        refine (truth_any _).mono ?_
        rintro e ws ⟨rfl, hxs⟩
        have HS2 := Reg.ext hxs HS
        clear hxs HS
        have HS := HS2
        clear HS2
        refine hK.out _ _ HS (fun _ => ?_)
        clear hK KK
        try simp only [Act.put, List.setIfInBounds_toArray, List.set_cons_zero, List.set_cons_succ]
        refine wpAnyH_take (i := 3) (oi := { dst := some 18, op := Op.binOp BinOp.eql _ (Operand.tmp 16) (Operand.tmp 17) _, type := _, pos := _, after := _, guard := none }) (v := .bool (true)) rfl (by kernel_rfl) (by kernel_rfl) (by kernel_rfl) (fun _ _ _ h => h) (Or.inl ⟨by rfl, fun wx hx => by go_simp⟩) HS ?_
        simp only [Act.put, List.setIfInBounds_toArray, List.set_cons_zero, List.set_cons_succ]
        refine wpAnyH_take (i := 4) (oi := { dst := some 19, op := Op.move (Operand.tmp 18), type := _, pos := _, after := _, guard := none }) (v := .bool (true)) rfl (by kernel_rfl) (by kernel_rfl) (by kernel_rfl) (fun _ _ _ h => h) (Or.inl ⟨by rfl, fun wx hx => by go_simp⟩) HS ?_
        simp only [Act.put, List.setIfInBounds_toArray, List.set_cons_zero, List.set_cons_succ]
        refine wpAnyH_take (i := 5) (oi := { dst := some 20, op := Op.load _ (Operand.tmp 4), type := _, pos := _, after := _, guard := some (4, true) }) (v := .agg #[.int .i64 (a).1, .int .i64 (a).2]) rfl (by kernel_rfl) (by kernel_rfl) (by kernel_rfl) (fun _ _ _ h => h) (Or.inl ⟨by rfl, fun wx hx => by obtain ⟨c0, c1⟩ := hx.at (w.heap.size + 1) (a) (by simp); go_simp⟩) HS ?_
        simp only [Act.put, List.setIfInBounds_toArray, List.set_cons_zero, List.set_cons_succ]
        refine wpAnyH_take (i := 6) (oi := { dst := some 21, op := Op.load _ (Operand.tmp 5), type := _, pos := _, after := _, guard := some (4, true) }) (v := .agg #[.int .i64 (a).1, .int .i64 (a).2]) rfl (by kernel_rfl) (by kernel_rfl) (by kernel_rfl) (fun _ _ _ h => h) (Or.inl ⟨by rfl, fun wx hx => by obtain ⟨c0, c1⟩ := hx.at (w.heap.size + 1 + 1) (a) (by simp); go_simp⟩) HS ?_
        simp only [Act.put, List.setIfInBounds_toArray, List.set_cons_zero, List.set_cons_succ]
        refine wpAnyH_take (i := 7) (oi := { dst := some 22, op := Op.binOp BinOp.eql _ (Operand.tmp 20) (Operand.tmp 21) _, type := _, pos := _, after := _, guard := some (4, true) }) (v := .bool (true)) rfl (by kernel_rfl) (by kernel_rfl) (by kernel_rfl) (fun _ _ _ h => h) (Or.inl ⟨by rfl, fun wx hx => by go_simp⟩) HS ?_
        simp only [Act.put, List.setIfInBounds_toArray, List.set_cons_zero, List.set_cons_succ]
        refine wpAnyH_take (i := 8) (oi := { dst := some 23, op := Op.pick (Operand.tmp 19) (Operand.tmp 22) (Operand.const (Value.bool false)), type := _, pos := _, after := _, guard := none }) (v := .bool (true)) rfl (by kernel_rfl) (by kernel_rfl) (by kernel_rfl) (fun _ _ _ h => h) (Or.inl ⟨by rfl, fun wx hx => by go_simp⟩) HS ?_
        simp only [Act.put, List.setIfInBounds_toArray, List.set_cons_zero, List.set_cons_succ]
        refine wpAnyH_take (i := 9) (oi := { dst := some 24, op := Op.move (Operand.tmp 23), type := _, pos := _, after := _, guard := none }) (v := .bool (true)) rfl (by kernel_rfl) (by kernel_rfl) (by kernel_rfl) (fun _ _ _ h => h) (Or.inl ⟨by rfl, fun wx hx => by go_simp⟩) HS ?_
        simp only [Act.put, List.setIfInBounds_toArray, List.set_cons_zero, List.set_cons_succ]
        refine wpAnyH_take (i := 10) (oi := { dst := some 25, op := Op.load _ (Operand.tmp 4), type := _, pos := _, after := _, guard := some (9, true) }) (v := .agg #[.int .i64 (a).1, .int .i64 (a).2]) rfl (by kernel_rfl) (by kernel_rfl) (by kernel_rfl) (fun _ _ _ h => h) (Or.inl ⟨by rfl, fun wx hx => by obtain ⟨c0, c1⟩ := hx.at (w.heap.size + 1) (a) (by simp); go_simp⟩) HS ?_
        simp only [Act.put, List.setIfInBounds_toArray, List.set_cons_zero, List.set_cons_succ]
        refine wpAnyH_ready (rs := [11]) (by kernel_rfl) (by simp) (AllReadyH.cons (o := { dst := some 26, op := Op.call { callee := Callee.value (Operand.func _), args := #[Operand.tmp 25], argTypes := _ }, type := _, pos := _, after := _, guard := some (9, true) }) rfl (fun KK hK => ?_) AllReadyH.nil)
        go_simp
        refine (isValue_any a _).mono ?_
        rintro e ws ⟨rfl, hxs⟩
        have HS2 := Reg.ext hxs HS
        clear hxs HS
        have HS := HS2
        clear HS2
        refine hK.out _ _ HS (fun _ => ?_)
        clear hK KK
        try simp only [Act.put, List.setIfInBounds_toArray, List.set_cons_zero, List.set_cons_succ]
        refine wpAnyH_take (i := 12) (oi := { dst := some 27, op := Op.pick (Operand.tmp 24) (Operand.tmp 26) (Operand.const (Value.bool false)), type := _, pos := _, after := _, guard := none }) (v := .bool (valuP a)) rfl (by kernel_rfl) (by kernel_rfl) (by kernel_rfl) (fun _ _ _ h => h) (Or.inl ⟨by rfl, fun wx hx => by go_simp⟩) HS ?_
        simp only [Act.put, List.setIfInBounds_toArray, List.set_cons_zero, List.set_cons_succ]
        refine wpAnyH_ready (rs := [13]) (by kernel_rfl) (by simp) (AllReadyH.cons (o := { dst := some 28, op := Op.call { callee := Callee.value (Operand.func _), args := #[Operand.tmp 15, Operand.tmp 27], argTypes := _ }, type := _, pos := _, after := _, guard := none }) rfl (fun KK hK => ?_) AllReadyH.nil)
        go_simp
        refine (comes_any (a) (valuP a) _).mono ?_
        rintro e ws ⟨rfl, hxs⟩
        have HS2 := Reg.ext hxs HS
        clear hxs HS
        have HS := HS2
        clear HS2
        refine hK.out _ _ HS (fun _ => ?_)
        clear hK KK
        try simp only [Act.put, List.setIfInBounds_toArray, List.set_cons_zero, List.set_cons_succ]
        refine wpAnyH_take (i := 14) (oi := { dst := some 29, op := Op.extract (Operand.tmp 28) 0, type := _, pos := _, after := _, guard := none }) (v := .agg #[.int .i64 ((comP (a) (valuP a)).1).1, .int .i64 ((comP (a) (valuP a)).1).2]) rfl (by kernel_rfl) (by kernel_rfl) (by kernel_rfl) (fun _ _ _ h => h) (Or.inl ⟨by rfl, fun wx hx => by go_simp⟩) HS ?_
        simp only [Act.put, List.setIfInBounds_toArray, List.set_cons_zero, List.set_cons_succ]
        refine wpAnyH_take (i := 15) (oi := { dst := some 30, op := Op.extract (Operand.tmp 28) 1, type := _, pos := _, after := _, guard := none }) (v := .int .i64 ((comP (a) (valuP a)).2)) rfl (by kernel_rfl) (by kernel_rfl) (by kernel_rfl) (fun _ _ _ h => h) (Or.inl ⟨by rfl, fun wx hx => by go_simp⟩) HS ?_
        simp only [Act.put, List.setIfInBounds_toArray, List.set_cons_zero, List.set_cons_succ]
        refine wpAnyH_ready (rs := [16]) (by kernel_rfl) (by simp) (AllReadyH.cons (o := { dst := none, op := Op.store _ (Operand.tmp 6) (Operand.tmp 29), type := _, pos := _, after := _, guard := none }) rfl (fun KK hK => ?_) AllReadyH.nil)
        obtain ⟨x, y, r0, r1, z0, z1⟩ := HS.res
        have HF := hide (HS.fin (.int .i64 ((comP (a) (valuP a)).1).1) (.int .i64 ((comP (a) (valuP a)).1).2))
        go_simp
        refine hK.out _ _ (Reg.put HS (.int .i64 ((comP (a) (valuP a)).1).1) (.int .i64 ((comP (a) (valuP a)).1).2)) (fun _ => ?_)
        have HS2 := Reg.put HS (.int .i64 ((comP (a) (valuP a)).1).1) (.int .i64 ((comP (a) (valuP a)).1).2)
        clear hK KK HS
        have HS := HS2
        clear HS2
        try simp only [Act.put, List.setIfInBounds_toArray, List.set_cons_zero, List.set_cons_succ]
        refine wpAnyH_take (i := 17) (oi := { dst := some 7, op := Op.assign (Operand.tmp 30), type := _, pos := _, after := _, guard := none }) (v := .int .i64 ((comP (a) (valuP a)).2)) rfl (by kernel_rfl) (by kernel_rfl) (by kernel_rfl) (fun _ _ _ h => h) (Or.inl ⟨by rfl, fun wx hx => by go_simp⟩) HS ?_
        simp only [Act.put, List.setIfInBounds_toArray, List.set_cons_zero, List.set_cons_succ]
        refine wpAnyH_done (by kernel_rfl) ?_ _
        refine NoPanic.normal ?_
        go_wp2
        obtain ⟨s0, s1⟩ := (unhide HF).1.two
        exact bodyPost_ret (v := .tuple #[.agg #[.int .i64 ((comP (a) (valuP a)).1).1, .int .i64 ((comP (a) (valuP a)).1).2], .int .i64 (comP (a) (valuP a)).2]) (by simp [results, Try.results21, go_sem, s0, s1]) rfl ⟨rfl, (unhide HF).2⟩
      | false =>
        rw [hp] at hU
        rcases eqT_cases hp with p1 | ⟨p1, p2⟩ <;>
        · clear hp
          rw [Bool.and_false, Bool.false_and] at hU
          subst hU
          go_upto_region 3 with fail
          refine wp_region_noPanic ?_
          refine wp_region_held_drew (S := fun wx => Reg w [(w.heap.size, truT), (w.heap.size + 1, a), (w.heap.size + 1 + 1, d)] (w.heap.size + 1 + 1 + 1) wx) (by kernel_rfl) ((unhide H1).drew) (fun HS => ?_)
          refine wpAnyH_take (i := 0) (oi := { dst := some 15, op := Op.load _ (Operand.tmp 4), type := _, pos := _, after := _, guard := none }) (v := .agg #[.int .i64 (a).1, .int .i64 (a).2]) rfl (by kernel_rfl) (by kernel_rfl) (by kernel_rfl) (fun _ _ _ h => h) (Or.inl ⟨by rfl, fun wx hx => by obtain ⟨c0, c1⟩ := hx.at (w.heap.size + 1) (a) (by simp); go_simp⟩) HS ?_
          simp only [Act.put, List.setIfInBounds_toArray, List.set_cons_zero, List.set_cons_succ]
          refine wpAnyH_take (i := 1) (oi := { dst := some 16, op := Op.load _ (Operand.tmp 3), type := _, pos := _, after := _, guard := none }) (v := .agg #[.int .i64 (truT).1, .int .i64 (truT).2]) rfl (by kernel_rfl) (by kernel_rfl) (by kernel_rfl) (fun _ _ _ h => h) (Or.inl ⟨by rfl, fun wx hx => by obtain ⟨c0, c1⟩ := hx.at (w.heap.size) (truT) (by simp); go_simp⟩) HS ?_
          simp only [Act.put, List.setIfInBounds_toArray, List.set_cons_zero, List.set_cons_succ]
          refine wpAnyH_ready (rs := [2]) (by kernel_rfl) (by simp) (AllReadyH.cons (o := { dst := some 17, op := Op.call { callee := Callee.value (Operand.func _), args := #[], argTypes := _ }, type := _, pos := _, after := _, guard := none }) rfl (fun KK hK => ?_) AllReadyH.nil)
          go_simp
          refine (truth_any _).mono ?_
          rintro e ws ⟨rfl, hxs⟩
          have HS2 := Reg.ext hxs HS
          clear hxs HS
          have HS := HS2
          clear HS2
          refine hK.out _ _ HS (fun _ => ?_)
          clear hK KK
          try simp only [Act.put, List.setIfInBounds_toArray, List.set_cons_zero, List.set_cons_succ]
          refine wpAnyH_take (i := 3) (oi := { dst := some 18, op := Op.binOp BinOp.eql _ (Operand.tmp 16) (Operand.tmp 17) _, type := _, pos := _, after := _, guard := none }) (v := .bool (true)) rfl (by kernel_rfl) (by kernel_rfl) (by kernel_rfl) (fun _ _ _ h => h) (Or.inl ⟨by rfl, fun wx hx => by go_simp⟩) HS ?_
          simp only [Act.put, List.setIfInBounds_toArray, List.set_cons_zero, List.set_cons_succ]
          refine wpAnyH_take (i := 4) (oi := { dst := some 19, op := Op.move (Operand.tmp 18), type := _, pos := _, after := _, guard := none }) (v := .bool (true)) rfl (by kernel_rfl) (by kernel_rfl) (by kernel_rfl) (fun _ _ _ h => h) (Or.inl ⟨by rfl, fun wx hx => by go_simp⟩) HS ?_
          simp only [Act.put, List.setIfInBounds_toArray, List.set_cons_zero, List.set_cons_succ]
          refine wpAnyH_take (i := 5) (oi := { dst := some 20, op := Op.load _ (Operand.tmp 4), type := _, pos := _, after := _, guard := some (4, true) }) (v := .agg #[.int .i64 (a).1, .int .i64 (a).2]) rfl (by kernel_rfl) (by kernel_rfl) (by kernel_rfl) (fun _ _ _ h => h) (Or.inl ⟨by rfl, fun wx hx => by obtain ⟨c0, c1⟩ := hx.at (w.heap.size + 1) (a) (by simp); go_simp⟩) HS ?_
          simp only [Act.put, List.setIfInBounds_toArray, List.set_cons_zero, List.set_cons_succ]
          refine wpAnyH_take (i := 6) (oi := { dst := some 21, op := Op.load _ (Operand.tmp 5), type := _, pos := _, after := _, guard := some (4, true) }) (v := .agg #[.int .i64 (d).1, .int .i64 (d).2]) rfl (by kernel_rfl) (by kernel_rfl) (by kernel_rfl) (fun _ _ _ h => h) (Or.inl ⟨by rfl, fun wx hx => by obtain ⟨c0, c1⟩ := hx.at (w.heap.size + 1 + 1) (d) (by simp); go_simp⟩) HS ?_
          simp only [Act.put, List.setIfInBounds_toArray, List.set_cons_zero, List.set_cons_succ]
          refine wpAnyH_take (i := 7) (oi := { dst := some 22, op := Op.binOp BinOp.eql _ (Operand.tmp 20) (Operand.tmp 21) _, type := _, pos := _, after := _, guard := some (4, true) }) (v := .bool (false)) rfl (by kernel_rfl) (by kernel_rfl) (by kernel_rfl) (fun _ _ _ h => h) (Or.inl ⟨by rfl, fun wx hx => by go_simp⟩) HS ?_
          simp only [Act.put, List.setIfInBounds_toArray, List.set_cons_zero, List.set_cons_succ]
          refine wpAnyH_take (i := 8) (oi := { dst := some 23, op := Op.pick (Operand.tmp 19) (Operand.tmp 22) (Operand.const (Value.bool false)), type := _, pos := _, after := _, guard := none }) (v := .bool (false)) rfl (by kernel_rfl) (by kernel_rfl) (by kernel_rfl) (fun _ _ _ h => h) (Or.inl ⟨by rfl, fun wx hx => by go_simp⟩) HS ?_
          simp only [Act.put, List.setIfInBounds_toArray, List.set_cons_zero, List.set_cons_succ]
          refine wpAnyH_take (i := 9) (oi := { dst := some 24, op := Op.move (Operand.tmp 23), type := _, pos := _, after := _, guard := none }) (v := .bool (false)) rfl (by kernel_rfl) (by kernel_rfl) (by kernel_rfl) (fun _ _ _ h => h) (Or.inl ⟨by rfl, fun wx hx => by go_simp⟩) HS ?_
          simp only [Act.put, List.setIfInBounds_toArray, List.set_cons_zero, List.set_cons_succ]
          refine wpAnyH_take (i := 10) (oi := { dst := some 25, op := Op.load _ (Operand.tmp 4), type := _, pos := _, after := _, guard := some (9, true) }) (v := undef) rfl (by kernel_rfl) (by kernel_rfl) (by kernel_rfl) (fun _ _ _ h => h) (Or.inr ⟨by rfl, rfl⟩) HS ?_
          simp only [Act.put, List.setIfInBounds_toArray, List.set_cons_zero, List.set_cons_succ]
          refine wpAnyH_take (i := 11) (oi := { dst := some 26, op := Op.call { callee := Callee.value (Operand.func _), args := #[Operand.tmp 25], argTypes := _ }, type := _, pos := _, after := _, guard := some (9, true) }) (v := undef) rfl (by kernel_rfl) (by kernel_rfl) (by kernel_rfl) (fun _ _ _ h => h) (Or.inr ⟨by rfl, rfl⟩) HS ?_
          simp only [Act.put, List.setIfInBounds_toArray, List.set_cons_zero, List.set_cons_succ]
          refine wpAnyH_take (i := 12) (oi := { dst := some 27, op := Op.pick (Operand.tmp 24) (Operand.tmp 26) (Operand.const (Value.bool false)), type := _, pos := _, after := _, guard := none }) (v := .bool (false)) rfl (by kernel_rfl) (by kernel_rfl) (by kernel_rfl) (fun _ _ _ h => h) (Or.inl ⟨by rfl, fun wx hx => by go_simp⟩) HS ?_
          simp only [Act.put, List.setIfInBounds_toArray, List.set_cons_zero, List.set_cons_succ]
          refine wpAnyH_ready (rs := [13]) (by kernel_rfl) (by simp) (AllReadyH.cons (o := { dst := some 28, op := Op.call { callee := Callee.value (Operand.func _), args := #[Operand.tmp 15, Operand.tmp 27], argTypes := _ }, type := _, pos := _, after := _, guard := none }) rfl (fun KK hK => ?_) AllReadyH.nil)
          go_simp
          refine (comes_any (a) (false) _).mono ?_
          rintro e ws ⟨rfl, hxs⟩
          have HS2 := Reg.ext hxs HS
          clear hxs HS
          have HS := HS2
          clear HS2
          refine hK.out _ _ HS (fun _ => ?_)
          clear hK KK
          try simp only [Act.put, List.setIfInBounds_toArray, List.set_cons_zero, List.set_cons_succ]
          refine wpAnyH_take (i := 14) (oi := { dst := some 29, op := Op.extract (Operand.tmp 28) 0, type := _, pos := _, after := _, guard := none }) (v := .agg #[.int .i64 ((comP (a) (false)).1).1, .int .i64 ((comP (a) (false)).1).2]) rfl (by kernel_rfl) (by kernel_rfl) (by kernel_rfl) (fun _ _ _ h => h) (Or.inl ⟨by rfl, fun wx hx => by go_simp⟩) HS ?_
          simp only [Act.put, List.setIfInBounds_toArray, List.set_cons_zero, List.set_cons_succ]
          refine wpAnyH_take (i := 15) (oi := { dst := some 30, op := Op.extract (Operand.tmp 28) 1, type := _, pos := _, after := _, guard := none }) (v := .int .i64 ((comP (a) (false)).2)) rfl (by kernel_rfl) (by kernel_rfl) (by kernel_rfl) (fun _ _ _ h => h) (Or.inl ⟨by rfl, fun wx hx => by go_simp⟩) HS ?_
          simp only [Act.put, List.setIfInBounds_toArray, List.set_cons_zero, List.set_cons_succ]
          refine wpAnyH_ready (rs := [16]) (by kernel_rfl) (by simp) (AllReadyH.cons (o := { dst := none, op := Op.store _ (Operand.tmp 6) (Operand.tmp 29), type := _, pos := _, after := _, guard := none }) rfl (fun KK hK => ?_) AllReadyH.nil)
          obtain ⟨x, y, r0, r1, z0, z1⟩ := HS.res
          have HF := hide (HS.fin (.int .i64 ((comP (a) (false)).1).1) (.int .i64 ((comP (a) (false)).1).2))
          go_simp
          refine hK.out _ _ (Reg.put HS (.int .i64 ((comP (a) (false)).1).1) (.int .i64 ((comP (a) (false)).1).2)) (fun _ => ?_)
          have HS2 := Reg.put HS (.int .i64 ((comP (a) (false)).1).1) (.int .i64 ((comP (a) (false)).1).2)
          clear hK KK HS
          have HS := HS2
          clear HS2
          try simp only [Act.put, List.setIfInBounds_toArray, List.set_cons_zero, List.set_cons_succ]
          refine wpAnyH_take (i := 17) (oi := { dst := some 7, op := Op.assign (Operand.tmp 30), type := _, pos := _, after := _, guard := none }) (v := .int .i64 ((comP (a) (false)).2)) rfl (by kernel_rfl) (by kernel_rfl) (by kernel_rfl) (fun _ _ _ h => h) (Or.inl ⟨by rfl, fun wx hx => by go_simp⟩) HS ?_
          simp only [Act.put, List.setIfInBounds_toArray, List.set_cons_zero, List.set_cons_succ]
          refine wpAnyH_done (by kernel_rfl) ?_ _
          refine NoPanic.normal ?_
          go_wp2
          obtain ⟨s0, s1⟩ := (unhide HF).1.two
          exact bodyPost_ret (v := .tuple #[.agg #[.int .i64 ((comP (a) (false)).1).1, .int .i64 ((comP (a) (false)).1).2], .int .i64 (comP (a) (false)).2]) (by simp [results, Try.results21, go_sem, s0, s1]) rfl ⟨rfl, (unhide HF).2⟩
    | false =>
      rw [hq] at hU
      rcases eqT_cases hq with q1 | ⟨q1, q2⟩ <;>
      · clear hq
        rw [Bool.false_and, Bool.false_and] at hU
        subst hU
        go_upto_region 3 with fail
        refine wp_region_noPanic ?_
        refine wp_region_held_drew (S := fun wx => Reg w [(w.heap.size, c), (w.heap.size + 1, a), (w.heap.size + 1 + 1, d)] (w.heap.size + 1 + 1 + 1) wx) (by kernel_rfl) ((unhide H1).drew) (fun HS => ?_)
        refine wpAnyH_take (i := 0) (oi := { dst := some 15, op := Op.load _ (Operand.tmp 4), type := _, pos := _, after := _, guard := none }) (v := .agg #[.int .i64 (a).1, .int .i64 (a).2]) rfl (by kernel_rfl) (by kernel_rfl) (by kernel_rfl) (fun _ _ _ h => h) (Or.inl ⟨by rfl, fun wx hx => by obtain ⟨c0, c1⟩ := hx.at (w.heap.size + 1) (a) (by simp); go_simp⟩) HS ?_
        simp only [Act.put, List.setIfInBounds_toArray, List.set_cons_zero, List.set_cons_succ]
        refine wpAnyH_take (i := 1) (oi := { dst := some 16, op := Op.load _ (Operand.tmp 3), type := _, pos := _, after := _, guard := none }) (v := .agg #[.int .i64 (c).1, .int .i64 (c).2]) rfl (by kernel_rfl) (by kernel_rfl) (by kernel_rfl) (fun _ _ _ h => h) (Or.inl ⟨by rfl, fun wx hx => by obtain ⟨c0, c1⟩ := hx.at (w.heap.size) (c) (by simp); go_simp⟩) HS ?_
        simp only [Act.put, List.setIfInBounds_toArray, List.set_cons_zero, List.set_cons_succ]
        refine wpAnyH_ready (rs := [2]) (by kernel_rfl) (by simp) (AllReadyH.cons (o := { dst := some 17, op := Op.call { callee := Callee.value (Operand.func _), args := #[], argTypes := _ }, type := _, pos := _, after := _, guard := none }) rfl (fun KK hK => ?_) AllReadyH.nil)
        go_simp
        refine (truth_any _).mono ?_
        rintro e ws ⟨rfl, hxs⟩
        have HS2 := Reg.ext hxs HS
        clear hxs HS
        have HS := HS2
        clear HS2
        refine hK.out _ _ HS (fun _ => ?_)
        clear hK KK
        try simp only [Act.put, List.setIfInBounds_toArray, List.set_cons_zero, List.set_cons_succ]
        refine wpAnyH_take (i := 3) (oi := { dst := some 18, op := Op.binOp BinOp.eql _ (Operand.tmp 16) (Operand.tmp 17) _, type := _, pos := _, after := _, guard := none }) (v := .bool (false)) rfl (by kernel_rfl) (by kernel_rfl) (by kernel_rfl) (fun _ _ _ h => h) (Or.inl ⟨by rfl, fun wx hx => by go_simp⟩) HS ?_
        simp only [Act.put, List.setIfInBounds_toArray, List.set_cons_zero, List.set_cons_succ]
        refine wpAnyH_take (i := 4) (oi := { dst := some 19, op := Op.move (Operand.tmp 18), type := _, pos := _, after := _, guard := none }) (v := .bool (false)) rfl (by kernel_rfl) (by kernel_rfl) (by kernel_rfl) (fun _ _ _ h => h) (Or.inl ⟨by rfl, fun wx hx => by go_simp⟩) HS ?_
        simp only [Act.put, List.setIfInBounds_toArray, List.set_cons_zero, List.set_cons_succ]
        refine wpAnyH_take (i := 5) (oi := { dst := some 20, op := Op.load _ (Operand.tmp 4), type := _, pos := _, after := _, guard := some (4, true) }) (v := undef) rfl (by kernel_rfl) (by kernel_rfl) (by kernel_rfl) (fun _ _ _ h => h) (Or.inr ⟨by rfl, rfl⟩) HS ?_
        simp only [Act.put, List.setIfInBounds_toArray, List.set_cons_zero, List.set_cons_succ]
        refine wpAnyH_take (i := 6) (oi := { dst := some 21, op := Op.load _ (Operand.tmp 5), type := _, pos := _, after := _, guard := some (4, true) }) (v := undef) rfl (by kernel_rfl) (by kernel_rfl) (by kernel_rfl) (fun _ _ _ h => h) (Or.inr ⟨by rfl, rfl⟩) HS ?_
        simp only [Act.put, List.setIfInBounds_toArray, List.set_cons_zero, List.set_cons_succ]
        refine wpAnyH_take (i := 7) (oi := { dst := some 22, op := Op.binOp BinOp.eql _ (Operand.tmp 20) (Operand.tmp 21) _, type := _, pos := _, after := _, guard := some (4, true) }) (v := undef) rfl (by kernel_rfl) (by kernel_rfl) (by kernel_rfl) (fun _ _ _ h => h) (Or.inr ⟨by rfl, rfl⟩) HS ?_
        simp only [Act.put, List.setIfInBounds_toArray, List.set_cons_zero, List.set_cons_succ]
        refine wpAnyH_take (i := 8) (oi := { dst := some 23, op := Op.pick (Operand.tmp 19) (Operand.tmp 22) (Operand.const (Value.bool false)), type := _, pos := _, after := _, guard := none }) (v := .bool (false)) rfl (by kernel_rfl) (by kernel_rfl) (by kernel_rfl) (fun _ _ _ h => h) (Or.inl ⟨by rfl, fun wx hx => by go_simp⟩) HS ?_
        simp only [Act.put, List.setIfInBounds_toArray, List.set_cons_zero, List.set_cons_succ]
        refine wpAnyH_take (i := 9) (oi := { dst := some 24, op := Op.move (Operand.tmp 23), type := _, pos := _, after := _, guard := none }) (v := .bool (false)) rfl (by kernel_rfl) (by kernel_rfl) (by kernel_rfl) (fun _ _ _ h => h) (Or.inl ⟨by rfl, fun wx hx => by go_simp⟩) HS ?_
        simp only [Act.put, List.setIfInBounds_toArray, List.set_cons_zero, List.set_cons_succ]
        refine wpAnyH_take (i := 10) (oi := { dst := some 25, op := Op.load _ (Operand.tmp 4), type := _, pos := _, after := _, guard := some (9, true) }) (v := undef) rfl (by kernel_rfl) (by kernel_rfl) (by kernel_rfl) (fun _ _ _ h => h) (Or.inr ⟨by rfl, rfl⟩) HS ?_
        simp only [Act.put, List.setIfInBounds_toArray, List.set_cons_zero, List.set_cons_succ]
        refine wpAnyH_take (i := 11) (oi := { dst := some 26, op := Op.call { callee := Callee.value (Operand.func _), args := #[Operand.tmp 25], argTypes := _ }, type := _, pos := _, after := _, guard := some (9, true) }) (v := undef) rfl (by kernel_rfl) (by kernel_rfl) (by kernel_rfl) (fun _ _ _ h => h) (Or.inr ⟨by rfl, rfl⟩) HS ?_
        simp only [Act.put, List.setIfInBounds_toArray, List.set_cons_zero, List.set_cons_succ]
        refine wpAnyH_take (i := 12) (oi := { dst := some 27, op := Op.pick (Operand.tmp 24) (Operand.tmp 26) (Operand.const (Value.bool false)), type := _, pos := _, after := _, guard := none }) (v := .bool (false)) rfl (by kernel_rfl) (by kernel_rfl) (by kernel_rfl) (fun _ _ _ h => h) (Or.inl ⟨by rfl, fun wx hx => by go_simp⟩) HS ?_
        simp only [Act.put, List.setIfInBounds_toArray, List.set_cons_zero, List.set_cons_succ]
        refine wpAnyH_ready (rs := [13]) (by kernel_rfl) (by simp) (AllReadyH.cons (o := { dst := some 28, op := Op.call { callee := Callee.value (Operand.func _), args := #[Operand.tmp 15, Operand.tmp 27], argTypes := _ }, type := _, pos := _, after := _, guard := none }) rfl (fun KK hK => ?_) AllReadyH.nil)
        go_simp
        refine (comes_any (a) (false) _).mono ?_
        rintro e ws ⟨rfl, hxs⟩
        have HS2 := Reg.ext hxs HS
        clear hxs HS
        have HS := HS2
        clear HS2
        refine hK.out _ _ HS (fun _ => ?_)
        clear hK KK
        try simp only [Act.put, List.setIfInBounds_toArray, List.set_cons_zero, List.set_cons_succ]
        refine wpAnyH_take (i := 14) (oi := { dst := some 29, op := Op.extract (Operand.tmp 28) 0, type := _, pos := _, after := _, guard := none }) (v := .agg #[.int .i64 ((comP (a) (false)).1).1, .int .i64 ((comP (a) (false)).1).2]) rfl (by kernel_rfl) (by kernel_rfl) (by kernel_rfl) (fun _ _ _ h => h) (Or.inl ⟨by rfl, fun wx hx => by go_simp⟩) HS ?_
        simp only [Act.put, List.setIfInBounds_toArray, List.set_cons_zero, List.set_cons_succ]
        refine wpAnyH_take (i := 15) (oi := { dst := some 30, op := Op.extract (Operand.tmp 28) 1, type := _, pos := _, after := _, guard := none }) (v := .int .i64 ((comP (a) (false)).2)) rfl (by kernel_rfl) (by kernel_rfl) (by kernel_rfl) (fun _ _ _ h => h) (Or.inl ⟨by rfl, fun wx hx => by go_simp⟩) HS ?_
        simp only [Act.put, List.setIfInBounds_toArray, List.set_cons_zero, List.set_cons_succ]
        refine wpAnyH_ready (rs := [16]) (by kernel_rfl) (by simp) (AllReadyH.cons (o := { dst := none, op := Op.store _ (Operand.tmp 6) (Operand.tmp 29), type := _, pos := _, after := _, guard := none }) rfl (fun KK hK => ?_) AllReadyH.nil)
        obtain ⟨x, y, r0, r1, z0, z1⟩ := HS.res
        have HF := hide (HS.fin (.int .i64 ((comP (a) (false)).1).1) (.int .i64 ((comP (a) (false)).1).2))
        go_simp
        refine hK.out _ _ (Reg.put HS (.int .i64 ((comP (a) (false)).1).1) (.int .i64 ((comP (a) (false)).1).2)) (fun _ => ?_)
        have HS2 := Reg.put HS (.int .i64 ((comP (a) (false)).1).1) (.int .i64 ((comP (a) (false)).1).2)
        clear hK KK HS
        have HS := HS2
        clear HS2
        try simp only [Act.put, List.setIfInBounds_toArray, List.set_cons_zero, List.set_cons_succ]
        refine wpAnyH_take (i := 17) (oi := { dst := some 7, op := Op.assign (Operand.tmp 30), type := _, pos := _, after := _, guard := none }) (v := .int .i64 ((comP (a) (false)).2)) rfl (by kernel_rfl) (by kernel_rfl) (by kernel_rfl) (fun _ _ _ h => h) (Or.inl ⟨by rfl, fun wx hx => by go_simp⟩) HS ?_
        simp only [Act.put, List.setIfInBounds_toArray, List.set_cons_zero, List.set_cons_succ]
        refine wpAnyH_done (by kernel_rfl) ?_ _
        refine NoPanic.normal ?_
        go_wp2
        obtain ⟨s0, s1⟩ := (unhide HF).1.two
        exact bodyPost_ret (v := .tuple #[.agg #[.int .i64 ((comP (a) (false)).1).1, .int .i64 ((comP (a) (false)).1).2], .int .i64 (comP (a) (false)).2]) (by simp [results, Try.results21, go_sem, s0, s1]) rfl ⟨rfl, (unhide HF).2⟩

end Go.Proofs.Ytokmplebajgckaa
