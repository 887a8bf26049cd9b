/-
  Built-in functions: the rows of arguments that they take, and what they give.
-/
import Derived.Test.YtokmplebajgckaaKN
namespace Go.Proofs.Ytokmplebajgckaa
open Go.RowKit
set_option linter.unusedVariables false
set_option linter.unusedSimpArgs false

set_option maxHeartbeats 4000000 in
theorem takes_any (f g : Ty) (w : World) : Calls Try.prog 44 #[.agg #[.int .i64 (f).1, .int .i64 (f).2], .agg #[.int .i64 (g).1, .int .i64 (g).2]] w fun e w' => ∃ v, e = .returned v ∧ TyRR w' v (takesP f.2 g) ∧ Ext w w' := by
  have X0 := hide (((Ext.refl w).alloc (.cells #[.int .i64 (f).1, .int .i64 (f).2] 62)).alloc (.cells #[.int .i64 (g).1, .int .i64 (g).2] 23))
  have B0 : Hid (Blk ((w.alloc (.cells #[.int .i64 (f).1, .int .i64 (f).2] 62)).alloc (.cells #[.int .i64 (g).1, .int .i64 (g).2] 23)) w.heap.size #[.int .i64 (f).1, .int .i64 (f).2] 62) := (Blk.at rfl).alloc _
  have B1 : Hid (Blk ((w.alloc (.cells #[.int .i64 (f).1, .int .i64 (f).2] 62)).alloc (.cells #[.int .i64 (g).1, .int .i64 (g).2] 23)) (w.heap.size + 1) #[.int .i64 (g).1, .int .i64 (g).2] 23) := Blk.at (by simp)
  obtain ⟨M, hM⟩ : ∃ M, takesP f.2 g = M := ⟨_, rfl⟩
  rw [hM]
  have HM := hide hM
  clear hM
  have HFL := hide floats_any
  have HSM := hide sampler_any
  go_enter Try.func44, Try.ntmps44
  go_wp2_with fail
  refine (unhide HFL 1 _).mono ?_
  rintro e w1 ⟨rfl, hx1⟩
  have HX := hide (((unhide X0).trans hx1).alloc (.cells #[.int .i64 (fltT 1).1, .int .i64 (fltT 1).2] 23))
  have C0 := hide (((unhide B0).ext hx1).alloc (.cells #[.int .i64 (fltT 1).1, .int .i64 (fltT 1).2] 23))
  have C1 := hide (((unhide B1).ext hx1).alloc (.cells #[.int .i64 (fltT 1).1, .int .i64 (fltT 1).2] 23))
  have C2 := hide (Blk.new w1 #[.int .i64 (fltT 1).1, .int .i64 (fltT 1).2] 23)
  clear hx1 X0 B0 B1
  go_upto_region 2 with fail
  have hsz : (w1.alloc (.cells #[.int .i64 (fltT 1).1, .int .i64 (fltT 1).2] 23)).heap.size = w1.heap.size + 1 := by simp
  generalize w1.alloc (.cells #[.int .i64 (fltT 1).1, .int .i64 (fltT 1).2] 23) = w2 at HX C0 C1 C2 hsz ⊢
  generalize w1.heap.size = r at *
  clear hsz
  obtain ⟨a0, a1⟩ := (unhide C0).two
  obtain ⟨b0, b1⟩ := (unhide C1).two
  obtain ⟨c0, c1⟩ := (unhide C2).two
  have l1 := (unhide C1).lt
  have l2 := (unhide C2).lt
  have hM := unhide HM
  unfold takesP at hM
  by_cases e1 : f.2 = 1
  · rw [if_pos e1] at hM
    subst hM
    have q1 : (f.2 == 1) = true := by simp [e1]
    clear e1
    have HQ0 := TyR.one (w := w2) (b := w2.heap.size) (by simp) (g) 23
    have HR := hide (TyRR.one (w := (w2.alloc (.cells #[.int .i64 (g).1, .int .i64 (g).2] 23))) (b := w2.heap.size + 1) (by simp) HQ0 47)
    clear HQ0
    go_wp2
    go_ret
    exact ⟨_, rfl, unhide HR, ((unhide HX).alloc _).alloc _⟩
  · rw [if_neg e1] at hM
    have q1 : (f.2 == 1) = false := by simp [e1]
    clear e1
    by_cases e2 : f.2 = 2
    · rw [if_pos e2] at hM
      subst hM
      have q2 : (f.2 == 2) = true := by simp [e2]
      clear e2
      have HQ0 := TyR.two (w := w2) (b := w2.heap.size) (by simp) (g) (g) 23
      have HR := hide (TyRR.one (w := (w2.alloc (.cells #[.int .i64 (g).1, .int .i64 (g).2, .int .i64 (g).1, .int .i64 (g).2] 23))) (b := w2.heap.size + 1) (by simp) HQ0 47)
      clear HQ0
      go_wp2
      go_ret
      exact ⟨_, rfl, unhide HR, ((unhide HX).alloc _).alloc _⟩
    · rw [if_neg e2] at hM
      have q2 : (f.2 == 2) = false := by simp [e2]
      clear e2
      by_cases e3 : f.2 = 3
      · rw [if_pos e3] at hM
        subst hM
        have q3 : (f.2 == 3) = true := by simp [e3]
        clear e3
        have HQ0 := TyR.two (w := w2) (b := w2.heap.size) (by simp) (g) (g) 23
        have HQ1 := TyR.two (w := (w2.alloc (.cells #[.int .i64 (g).1, .int .i64 (g).2, .int .i64 (g).1, .int .i64 (g).2] 23))) (b := w2.heap.size + 1) (by simp) (g) (fltT 1) 23
        replace HQ0 := HQ0.ext ((Ext.refl (w2.alloc (.cells #[.int .i64 (g).1, .int .i64 (g).2, .int .i64 (g).1, .int .i64 (g).2] 23))).alloc (.cells #[.int .i64 (g).1, .int .i64 (g).2, .int .i64 (fltT 1).1, .int .i64 (fltT 1).2] 23))
        have HR := hide (TyRR.two (w := ((w2.alloc (.cells #[.int .i64 (g).1, .int .i64 (g).2, .int .i64 (g).1, .int .i64 (g).2] 23)).alloc (.cells #[.int .i64 (g).1, .int .i64 (g).2, .int .i64 (fltT 1).1, .int .i64 (fltT 1).2] 23))) (b := w2.heap.size + 1 + 1) (by simp) HQ0 HQ1 47)
        clear HQ0 HQ1
        go_wp2
        go_ret
        exact ⟨_, rfl, unhide HR, (((unhide HX).alloc _).alloc _).alloc _⟩
      · rw [if_neg e3] at hM
        have q3 : (f.2 == 3) = false := by simp [e3]
        clear e3
        by_cases e4 : f.2 = 4
        · rw [if_pos e4] at hM
          subst hM
          have q4 : (f.2 == 4) = true := by simp [e4]
          clear e4
          have HQ0 := TyR.two (w := w2) (b := w2.heap.size) (by simp) (g) (g) 23
          have HQ1 := TyR.two (w := (w2.alloc (.cells #[.int .i64 (g).1, .int .i64 (g).2, .int .i64 (g).1, .int .i64 (g).2] 23))) (b := w2.heap.size + 1) (by simp) (fltT 1) (g) 23
          replace HQ0 := HQ0.ext ((Ext.refl (w2.alloc (.cells #[.int .i64 (g).1, .int .i64 (g).2, .int .i64 (g).1, .int .i64 (g).2] 23))).alloc (.cells #[.int .i64 (fltT 1).1, .int .i64 (fltT 1).2, .int .i64 (g).1, .int .i64 (g).2] 23))
          have HR := hide (TyRR.two (w := ((w2.alloc (.cells #[.int .i64 (g).1, .int .i64 (g).2, .int .i64 (g).1, .int .i64 (g).2] 23)).alloc (.cells #[.int .i64 (fltT 1).1, .int .i64 (fltT 1).2, .int .i64 (g).1, .int .i64 (g).2] 23))) (b := w2.heap.size + 1 + 1) (by simp) HQ0 HQ1 47)
          clear HQ0 HQ1
          go_wp2
          go_ret
          exact ⟨_, rfl, unhide HR, (((unhide HX).alloc _).alloc _).alloc _⟩
        · rw [if_neg e4] at hM
          have q4 : (f.2 == 4) = false := by simp [e4]
          clear e4
          by_cases e5 : f.2 = 5
          · rw [if_pos e5] at hM
            subst hM
            have q5 : (f.2 == 5) = true := by simp [e5]
            clear e5
            have HQ0 := TyR.three (w := w2) (b := w2.heap.size) (by simp) (g) (g) (g) 23
            have HQ1 := TyR.three (w := (w2.alloc (.cells #[.int .i64 (g).1, .int .i64 (g).2, .int .i64 (g).1, .int .i64 (g).2, .int .i64 (g).1, .int .i64 (g).2] 23))) (b := w2.heap.size + 1) (by simp) (g) (g) (fltT 1) 23
            replace HQ0 := HQ0.ext ((Ext.refl (w2.alloc (.cells #[.int .i64 (g).1, .int .i64 (g).2, .int .i64 (g).1, .int .i64 (g).2, .int .i64 (g).1, .int .i64 (g).2] 23))).alloc (.cells #[.int .i64 (g).1, .int .i64 (g).2, .int .i64 (g).1, .int .i64 (g).2, .int .i64 (fltT 1).1, .int .i64 (fltT 1).2] 23))
            have HR := hide (TyRR.two (w := ((w2.alloc (.cells #[.int .i64 (g).1, .int .i64 (g).2, .int .i64 (g).1, .int .i64 (g).2, .int .i64 (g).1, .int .i64 (g).2] 23)).alloc (.cells #[.int .i64 (g).1, .int .i64 (g).2, .int .i64 (g).1, .int .i64 (g).2, .int .i64 (fltT 1).1, .int .i64 (fltT 1).2] 23))) (b := w2.heap.size + 1 + 1) (by simp) HQ0 HQ1 47)
            clear HQ0 HQ1
            go_wp2
            go_ret
            exact ⟨_, rfl, unhide HR, (((unhide HX).alloc _).alloc _).alloc _⟩
          · rw [if_neg e5] at hM
            have q5 : (f.2 == 5) = false := by simp [e5]
            clear e5
            by_cases e6 : f.2 = 6
            · rw [if_pos e6] at hM
              subst hM
              have q6 : (f.2 == 6) = true := by simp [e6]
              clear e6
              have HQ0 := TyR.three (w := w2) (b := w2.heap.size) (by simp) (g) (g) (g) 23
              have HQ1 := TyR.three (w := (w2.alloc (.cells #[.int .i64 (g).1, .int .i64 (g).2, .int .i64 (g).1, .int .i64 (g).2, .int .i64 (g).1, .int .i64 (g).2] 23))) (b := w2.heap.size + 1) (by simp) (g) (fltT 1) (fltT 1) 23
              replace HQ0 := HQ0.ext ((Ext.refl (w2.alloc (.cells #[.int .i64 (g).1, .int .i64 (g).2, .int .i64 (g).1, .int .i64 (g).2, .int .i64 (g).1, .int .i64 (g).2] 23))).alloc (.cells #[.int .i64 (g).1, .int .i64 (g).2, .int .i64 (fltT 1).1, .int .i64 (fltT 1).2, .int .i64 (fltT 1).1, .int .i64 (fltT 1).2] 23))
              have HR := hide (TyRR.two (w := ((w2.alloc (.cells #[.int .i64 (g).1, .int .i64 (g).2, .int .i64 (g).1, .int .i64 (g).2, .int .i64 (g).1, .int .i64 (g).2] 23)).alloc (.cells #[.int .i64 (g).1, .int .i64 (g).2, .int .i64 (fltT 1).1, .int .i64 (fltT 1).2, .int .i64 (fltT 1).1, .int .i64 (fltT 1).2] 23))) (b := w2.heap.size + 1 + 1) (by simp) HQ0 HQ1 47)
              clear HQ0 HQ1
              go_wp2
              go_ret
              exact ⟨_, rfl, unhide HR, (((unhide HX).alloc _).alloc _).alloc _⟩
            · rw [if_neg e6] at hM
              have q6 : (f.2 == 6) = false := by simp [e6]
              clear e6
              by_cases e7 : f.2 = 7
              · rw [if_pos e7] at hM
                subst hM
                have q7 : (f.2 == 7) = true := by simp [e7]
                clear e7
                go_wp2_with fail
                refine (unhide HFL 3 _).mono ?_
                rintro e w3 ⟨rfl, hx3⟩
                have HX3 := hide ((unhide HX).trans hx3)
                clear hx3 HX
                go_wp2_with fail
                refine (unhide HFL 3 _).mono ?_
                rintro e w4 ⟨rfl, hx4⟩
                have HX := hide ((unhide HX3).trans hx4)
                clear hx4 HX3
                have HQ0 := TyR.two (w := w4) (b := w4.heap.size) (by simp) (fltT 3) (fltT 3) 23
                have HR := hide (TyRR.one (w := (w4.alloc (.cells #[.int .i64 (fltT 3).1, .int .i64 (fltT 3).2, .int .i64 (fltT 3).1, .int .i64 (fltT 3).2] 23))) (b := w4.heap.size + 1) (by simp) HQ0 47)
                clear HQ0
                go_wp2
                go_ret
                exact ⟨_, rfl, unhide HR, ((unhide HX).alloc _).alloc _⟩
              · rw [if_neg e7] at hM
                have q7 : (f.2 == 7) = false := by simp [e7]
                clear e7
                by_cases e8 : f.2 = 8
                · rw [if_pos e8] at hM
                  subst hM
                  have q8 : (f.2 == 8) = true := by simp [e8]
                  clear e8
                  go_wp2_with fail
                  refine (unhide HSM _).mono ?_
                  rintro e w3 ⟨rfl, hx3⟩
                  have HX3 := hide ((unhide HX).trans hx3)
                  clear hx3 HX
                  go_wp2_with fail
                  refine (unhide HFL 2 _).mono ?_
                  rintro e w4 ⟨rfl, hx4⟩
                  have HX := hide ((unhide HX3).trans hx4)
                  clear hx4 HX3
                  have HQ0 := TyR.two (w := w4) (b := w4.heap.size) (by simp) (smpT) (fltT 2) 23
                  have HR := hide (TyRR.one (w := (w4.alloc (.cells #[.int .i64 (smpT).1, .int .i64 (smpT).2, .int .i64 (fltT 2).1, .int .i64 (fltT 2).2] 23))) (b := w4.heap.size + 1) (by simp) HQ0 47)
                  clear HQ0
                  go_wp2
                  go_ret
                  exact ⟨_, rfl, unhide HR, ((unhide HX).alloc _).alloc _⟩
                · rw [if_neg e8] at hM
                  have q8 : (f.2 == 8) = false := by simp [e8]
                  clear e8
                  subst hM
                  go_wp2
                  go_ret
                  exact ⟨_, rfl, TyRR.none _, unhide HX⟩

set_option maxHeartbeats 4000000 in
theorem gives_any (f g : Ty) (w : World) : Calls Try.prog 46 #[.agg #[.int .i64 (f).1, .int .i64 (f).2], .agg #[.int .i64 (g).1, .int .i64 (g).2]] w fun e w' => e = .returned (.agg #[.int .i64 (givesP f.1 g).1, .int .i64 (givesP f.1 g).2]) ∧ Ext w w' := by
  have H0 : Hid (Reg w [(w.heap.size + 1, g)] (w.heap.size + 1 + 1) (((w.alloc (.cells #[.int .i64 (f).1, .int .i64 (f).2] 62)).alloc (.cells #[.int .i64 (g).1, .int .i64 (g).2] 23)).alloc (.cells #[.int .i64 0, .int .i64 0] 23))) := by
    refine ⟨(((Ext.refl w).alloc _).alloc _).alloc _, ?_, ⟨_, _, Blk.at (by simp)⟩, by omega, ?_⟩
    · intro p hp
      obtain rfl : p = (w.heap.size + 1, g) := by simpa using hp
      exact (Blk.at (by simp)).alloc _
    · intro p hp
      obtain rfl : p = (w.heap.size + 1, g) := by simpa using hp
      dsimp only
      omega
  have B0 : Hid (Blk (((w.alloc (.cells #[.int .i64 (f).1, .int .i64 (f).2] 62)).alloc (.cells #[.int .i64 (g).1, .int .i64 (g).2] 23)).alloc (.cells #[.int .i64 0, .int .i64 0] 23)) w.heap.size #[.int .i64 (f).1, .int .i64 (f).2] 62) := ((Blk.at rfl).alloc _).alloc _
  have HFL := hide floats_any
  obtain ⟨U, hU⟩ : ∃ U, givesP f.1 g = U := ⟨_, rfl⟩
  rw [hU]
  unfold givesP at hU
  go_enter Try.func46, Try.ntmps46
  go_upto_region 1 with fail
  generalize ((w.alloc (.cells #[.int .i64 (f).1, .int .i64 (f).2] 62)).alloc (.cells #[.int .i64 (g).1, .int .i64 (g).2] 23)).alloc (.cells #[.int .i64 0, .int .i64 0] 23) = w1 at H0 B0 ⊢
  obtain ⟨a0, a1⟩ := (unhide B0).two
  by_cases e19 : f.1 = 19
  · have q : (f.1 == 19) = true := by simp [e19]
    rw [if_pos (.inl e19)] at hU
    subst hU
    clear e19
    go_wp2_with fail
    refine (unhide HFL 1 _).mono ?_
    rintro e w2 ⟨rfl, hx2⟩
    have H2 := hide (Reg.ext hx2 (unhide H0))
    clear hx2 H0
    obtain ⟨x, y, r0, r1, z0, z1⟩ := (unhide H2).res
    have HF := hide ((unhide H2).fin (.int .i64 (fltT 1).1) (.int .i64 (fltT 1).2))
    go_wp2
    obtain ⟨s0, s1⟩ := (unhide HF).1.two
    exact bodyPost_ret (v := .agg #[.int .i64 (fltT 1).1, .int .i64 (fltT 1).2]) (by simp [results, Try.results46, go_sem, s0, s1]) rfl ⟨rfl, (unhide HF).2⟩
  · have q19 : (f.1 == 19) = false := by simp [e19]
    by_cases e20 : f.1 = 20
    · have q : (f.1 == 20) = true := by simp [e20]
      rw [if_pos (.inr e20)] at hU
      subst hU
      clear e19 e20
      go_wp2_with fail
      refine (unhide HFL 1 _).mono ?_
      rintro e w2 ⟨rfl, hx2⟩
      have H2 := hide (Reg.ext hx2 (unhide H0))
      clear hx2 H0
      obtain ⟨x, y, r0, r1, z0, z1⟩ := (unhide H2).res
      have HF := hide ((unhide H2).fin (.int .i64 (fltT 1).1) (.int .i64 (fltT 1).2))
      go_wp2
      obtain ⟨s0, s1⟩ := (unhide HF).1.two
      exact bodyPost_ret (v := .agg #[.int .i64 (fltT 1).1, .int .i64 (fltT 1).2]) (by simp [results, Try.results46, go_sem, s0, s1]) rfl ⟨rfl, (unhide HF).2⟩
    · have q20 : (f.1 == 20) = false := by simp [e20]
      rw [if_neg (by omega)] at hU
      clear e19 e20
      by_cases e21 : f.1 = 21
      · have q : (f.1 == 21) = true := by simp [e21]
        rw [if_pos e21] at hU
        subst hU
        clear e21
        go_wp2_with fail
        refine (unhide HFL 3 _).mono ?_
        rintro e w2 ⟨rfl, hx2⟩
        have H2 := hide (Reg.ext hx2 (unhide H0))
        clear hx2 H0
        obtain ⟨x, y, r0, r1, z0, z1⟩ := (unhide H2).res
        have HF := hide ((unhide H2).fin (.int .i64 (fltT 3).1) (.int .i64 (fltT 3).2))
        go_wp2
        obtain ⟨s0, s1⟩ := (unhide HF).1.two
        exact bodyPost_ret (v := .agg #[.int .i64 (fltT 3).1, .int .i64 (fltT 3).2]) (by simp [results, Try.results46, go_sem, s0, s1]) rfl ⟨rfl, (unhide HF).2⟩
      · have q21 : (f.1 == 21) = false := by simp [e21]
        rw [if_neg e21] at hU
        clear e21
        by_cases e22 : f.1 = 22
        · have q : (f.1 == 22) = true := by simp [e22]
          rw [if_pos e22] at hU
          subst hU
          clear e22
          go_wp2_with fail
          refine (unhide HFL 4 _).mono ?_
          rintro e w2 ⟨rfl, hx2⟩
          have H2 := hide (Reg.ext hx2 (unhide H0))
          clear hx2 H0
          obtain ⟨x, y, r0, r1, z0, z1⟩ := (unhide H2).res
          have HF := hide ((unhide H2).fin (.int .i64 (fltT 4).1) (.int .i64 (fltT 4).2))
          go_wp2
          obtain ⟨s0, s1⟩ := (unhide HF).1.two
          exact bodyPost_ret (v := .agg #[.int .i64 (fltT 4).1, .int .i64 (fltT 4).2]) (by simp [results, Try.results46, go_sem, s0, s1]) rfl ⟨rfl, (unhide HF).2⟩
        · have q22 : (f.1 == 22) = false := by simp [e22]
          rw [if_neg e22] at hU
          subst hU
          clear e22
          obtain ⟨c0, c1⟩ := (unhide H0).at (w.heap.size + 1) g (by simp)
          obtain ⟨x, y, r0, r1, z0, z1⟩ := (unhide H0).res
          have HF := hide ((unhide H0).fin (.int .i64 g.1) (.int .i64 g.2))
          go_wp2
          obtain ⟨s0, s1⟩ := (unhide HF).1.two
          exact bodyPost_ret (v := .agg #[.int .i64 (g).1, .int .i64 (g).2]) (by simp [results, Try.results46, go_sem, s0, s1]) rfl ⟨rfl, (unhide HF).2⟩
end Go.Proofs.Ytokmplebajgckaa
