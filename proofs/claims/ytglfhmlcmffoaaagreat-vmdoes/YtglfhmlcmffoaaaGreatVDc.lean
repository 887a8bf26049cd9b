/-
  The document's Apply: what each operation is. Written by mkvd.py.
-/
import Derived.Test.YtglfhmlcmffoaaaGreatVDb
namespace Go.Proofs.YtglfhmlcmffoaaaGreat
open Go.RowKit
set_option linter.unusedVariables false
set_option linter.unusedSimpArgs false

set_option maxRecDepth 10000 in
set_option maxHeartbeats 8000000 in
theorem apply_any (fn base : Int) (m : Nat) (a b c : Nat → Int) (w : World) (h1 : 1 ≤ m) (h4 : m ≤ 4) (hA : argsP fn base ≠ 0) (Ia : ∀ i, I32 (a i)) (Ib : ∀ i, I32 (b i)) (Ic : ∀ i, I32 (c i)) :
    Calls Tryz.prog 34 #[.int .i64 fn, .int .i64 base, .int .i64 (m : Int), .agg #[.int .i32 (a 0), .int .i32 (a 1), .int .i32 (a 2), .int .i32 (a 3)], .agg #[.int .i32 (b 0), .int .i32 (b 1), .int .i32 (b 2), .int .i32 (b 3)], .agg #[.int .i32 (c 0), .int .i32 (c 1), .int .i32 (c 2), .int .i32 (c 3)]] w fun e w' => e = .returned (.agg #[.int .i32 (doI fn base (m : Int) a b c 0), .int .i32 (doI fn base (m : Int) a b c 1), .int .i32 (doI fn base (m : Int) a b c 2), .int .i32 (doI fn base (m : Int) a b c 3)]) ∧ Ext w w' := by
  have HI := hide (And.intro Ia (And.intro Ib Ic))
  have HM := hide (And.intro h1 h4)
  have hm1 : (1 : Int) ≤ (m : Int) := by omega
  have hm4 : (m : Int) ≤ 4 := by omega
  have HMI := hide (And.intro hm1 hm4)
  have HAA := hide hA
  clear Ia Ib Ic h1 h4 hA hm1 hm4
  have HB := hide (show Blk ((((w.alloc (.cells #[.int .i32 (a 0), .int .i32 (a 1), .int .i32 (a 2), .int .i32 (a 3)] 28)).alloc (.cells #[.int .i32 (b 0), .int .i32 (b 1), .int .i32 (b 2), .int .i32 (b 3)] 28)).alloc (.cells #[.int .i32 (c 0), .int .i32 (c 1), .int .i32 (c 2), .int .i32 (c 3)] 28)).alloc (.cells #[.int .i32 0, .int .i32 0, .int .i32 0, .int .i32 0] 28)) w.heap.size #[.int .i32 (a 0), .int .i32 (a 1), .int .i32 (a 2), .int .i32 (a 3)] 28 ∧ Blk ((((w.alloc (.cells #[.int .i32 (a 0), .int .i32 (a 1), .int .i32 (a 2), .int .i32 (a 3)] 28)).alloc (.cells #[.int .i32 (b 0), .int .i32 (b 1), .int .i32 (b 2), .int .i32 (b 3)] 28)).alloc (.cells #[.int .i32 (c 0), .int .i32 (c 1), .int .i32 (c 2), .int .i32 (c 3)] 28)).alloc (.cells #[.int .i32 0, .int .i32 0, .int .i32 0, .int .i32 0] 28)) (w.heap.size + 1) #[.int .i32 (b 0), .int .i32 (b 1), .int .i32 (b 2), .int .i32 (b 3)] 28 ∧ Blk ((((w.alloc (.cells #[.int .i32 (a 0), .int .i32 (a 1), .int .i32 (a 2), .int .i32 (a 3)] 28)).alloc (.cells #[.int .i32 (b 0), .int .i32 (b 1), .int .i32 (b 2), .int .i32 (b 3)] 28)).alloc (.cells #[.int .i32 (c 0), .int .i32 (c 1), .int .i32 (c 2), .int .i32 (c 3)] 28)).alloc (.cells #[.int .i32 0, .int .i32 0, .int .i32 0, .int .i32 0] 28)) (w.heap.size + 1 + 1) #[.int .i32 (c 0), .int .i32 (c 1), .int .i32 (c 2), .int .i32 (c 3)] 28 ∧ Blk ((((w.alloc (.cells #[.int .i32 (a 0), .int .i32 (a 1), .int .i32 (a 2), .int .i32 (a 3)] 28)).alloc (.cells #[.int .i32 (b 0), .int .i32 (b 1), .int .i32 (b 2), .int .i32 (b 3)] 28)).alloc (.cells #[.int .i32 (c 0), .int .i32 (c 1), .int .i32 (c 2), .int .i32 (c 3)] 28)).alloc (.cells #[.int .i32 0, .int .i32 0, .int .i32 0, .int .i32 0] 28)) (w.heap.size + 1 + 1 + 1) #[.int .i32 (nul 0), .int .i32 (nul 1), .int .i32 (nul 2), .int .i32 (nul 3)] 28 ∧ Ext w ((((w.alloc (.cells #[.int .i32 (a 0), .int .i32 (a 1), .int .i32 (a 2), .int .i32 (a 3)] 28)).alloc (.cells #[.int .i32 (b 0), .int .i32 (b 1), .int .i32 (b 2), .int .i32 (b 3)] 28)).alloc (.cells #[.int .i32 (c 0), .int .i32 (c 1), .int .i32 (c 2), .int .i32 (c 3)] 28)).alloc (.cells #[.int .i32 0, .int .i32 0, .int .i32 0, .int .i32 0] 28)) from ⟨(((Blk.new w _ _).alloc _).alloc _).alloc _, ((Blk.at (by simp)).alloc _).alloc _, (Blk.at (by simp)).alloc _, Blk.at (by simp), ((((Ext.refl w).alloc _).alloc _).alloc _).alloc _⟩)
  by_cases e29 : fn = 29
  case pos =>
    subst e29
    have E : Hid (doI 29 base (m : Int) a b c = truI (decide (a 0 < b 0))) := rfl
    have HL : Hid (∀ wx : World, Calls Tryz.prog 48 #[.bool (decide (a 0 < b 0))] wx fun e w' => e = .returned (.int .i32 (truI (decide (a 0 < b 0)) 0)) ∧ Ext wx w') := fun wx => (refTru_any (decide (a 0 < b 0)) wx).mono fun e w' h => ⟨h.1, h.2 ▸ Ext.refl _⟩
    obtain ⟨t, ht⟩ : ∃ t, truI (decide (a 0 < b 0)) 0 = t := ⟨_, rfl⟩
    rw [ht] at HL
    have HT := hide ht
    clear ht
    go_enter Tryz.func34, Tryz.ntmps34
    go_wp2_with (first | (go_at_call 48; refine (unhide HL _).mono ?_; rintro e w1 ⟨rfl, hx⟩; have R := hide (And.intro ((unhide HB).2.2.2.1.ext hx) ((unhide HB).2.2.2.2.trans hx)); clear hx HB; obtain ⟨r0, r1, r2, r3⟩ := (unhide R).1.vec4; obtain ⟨f0, f1, f2, f3⟩ := (unhide R).1.free4))
    obtain ⟨q0, q1, q2, q3⟩ := lay4 (unhide R).1 (.int .i32 (t)) (.int .i32 (0)) (.int .i32 (0)) (.int .i32 (0))
    refine bodyPost_ret (v := .agg #[.int .i32 (t), .int .i32 (0), .int .i32 (0), .int .i32 (0)]) (by simp [results, Tryz.results34, go_sem, q0, q1, q2, q3]) rfl ⟨by rw [unhide E, ← unhide HT] <;> rfl, ext_set4 (unhide R).2 (by omega)⟩
  case neg =>
  have d29 : (fn == 29) = false := by simp [e29]
  by_cases e30 : fn = 30
  case pos =>
    subst e30
    have E : Hid (doI 30 base (m : Int) a b c = truI (decide (b 0 < a 0))) := rfl
    have HL : Hid (∀ wx : World, Calls Tryz.prog 48 #[.bool (decide (b 0 < a 0))] wx fun e w' => e = .returned (.int .i32 (truI (decide (b 0 < a 0)) 0)) ∧ Ext wx w') := fun wx => (refTru_any (decide (b 0 < a 0)) wx).mono fun e w' h => ⟨h.1, h.2 ▸ Ext.refl _⟩
    obtain ⟨t, ht⟩ : ∃ t, truI (decide (b 0 < a 0)) 0 = t := ⟨_, rfl⟩
    rw [ht] at HL
    have HT := hide ht
    clear ht
    go_enter Tryz.func34, Tryz.ntmps34
    go_wp2_with (first | (go_at_call 48; refine (unhide HL _).mono ?_; rintro e w1 ⟨rfl, hx⟩; have R := hide (And.intro ((unhide HB).2.2.2.1.ext hx) ((unhide HB).2.2.2.2.trans hx)); clear hx HB; obtain ⟨r0, r1, r2, r3⟩ := (unhide R).1.vec4; obtain ⟨f0, f1, f2, f3⟩ := (unhide R).1.free4))
    obtain ⟨q0, q1, q2, q3⟩ := lay4 (unhide R).1 (.int .i32 (t)) (.int .i32 (0)) (.int .i32 (0)) (.int .i32 (0))
    refine bodyPost_ret (v := .agg #[.int .i32 (t), .int .i32 (0), .int .i32 (0), .int .i32 (0)]) (by simp [results, Tryz.results34, go_sem, q0, q1, q2, q3]) rfl ⟨by rw [unhide E, ← unhide HT] <;> rfl, ext_set4 (unhide R).2 (by omega)⟩
  case neg =>
  have d30 : (fn == 30) = false := by simp [e30]
  by_cases e31 : fn = 31
  case pos =>
    subst e31
    have E : Hid (doI 31 base (m : Int) a b c = truI (decide (a 0 ≤ b 0))) := rfl
    have HL : Hid (∀ wx : World, Calls Tryz.prog 48 #[.bool (decide (a 0 ≤ b 0))] wx fun e w' => e = .returned (.int .i32 (truI (decide (a 0 ≤ b 0)) 0)) ∧ Ext wx w') := fun wx => (refTru_any (decide (a 0 ≤ b 0)) wx).mono fun e w' h => ⟨h.1, h.2 ▸ Ext.refl _⟩
    obtain ⟨t, ht⟩ : ∃ t, truI (decide (a 0 ≤ b 0)) 0 = t := ⟨_, rfl⟩
    rw [ht] at HL
    have HT := hide ht
    clear ht
    go_enter Tryz.func34, Tryz.ntmps34
    go_wp2_with (first | (go_at_call 48; refine (unhide HL _).mono ?_; rintro e w1 ⟨rfl, hx⟩; have R := hide (And.intro ((unhide HB).2.2.2.1.ext hx) ((unhide HB).2.2.2.2.trans hx)); clear hx HB; obtain ⟨r0, r1, r2, r3⟩ := (unhide R).1.vec4; obtain ⟨f0, f1, f2, f3⟩ := (unhide R).1.free4))
    obtain ⟨q0, q1, q2, q3⟩ := lay4 (unhide R).1 (.int .i32 (t)) (.int .i32 (0)) (.int .i32 (0)) (.int .i32 (0))
    refine bodyPost_ret (v := .agg #[.int .i32 (t), .int .i32 (0), .int .i32 (0), .int .i32 (0)]) (by simp [results, Tryz.results34, go_sem, q0, q1, q2, q3]) rfl ⟨by rw [unhide E, ← unhide HT] <;> rfl, ext_set4 (unhide R).2 (by omega)⟩
  case neg =>
  have d31 : (fn == 31) = false := by simp [e31]
  by_cases e32 : fn = 32
  case pos =>
    subst e32
    have E : Hid (doI 32 base (m : Int) a b c = truI (decide (b 0 ≤ a 0))) := rfl
    have HL : Hid (∀ wx : World, Calls Tryz.prog 48 #[.bool (decide (b 0 ≤ a 0))] wx fun e w' => e = .returned (.int .i32 (truI (decide (b 0 ≤ a 0)) 0)) ∧ Ext wx w') := fun wx => (refTru_any (decide (b 0 ≤ a 0)) wx).mono fun e w' h => ⟨h.1, h.2 ▸ Ext.refl _⟩
    obtain ⟨t, ht⟩ : ∃ t, truI (decide (b 0 ≤ a 0)) 0 = t := ⟨_, rfl⟩
    rw [ht] at HL
    have HT := hide ht
    clear ht
    go_enter Tryz.func34, Tryz.ntmps34
    go_wp2_with (first | (go_at_call 48; refine (unhide HL _).mono ?_; rintro e w1 ⟨rfl, hx⟩; have R := hide (And.intro ((unhide HB).2.2.2.1.ext hx) ((unhide HB).2.2.2.2.trans hx)); clear hx HB; obtain ⟨r0, r1, r2, r3⟩ := (unhide R).1.vec4; obtain ⟨f0, f1, f2, f3⟩ := (unhide R).1.free4))
    obtain ⟨q0, q1, q2, q3⟩ := lay4 (unhide R).1 (.int .i32 (t)) (.int .i32 (0)) (.int .i32 (0)) (.int .i32 (0))
    refine bodyPost_ret (v := .agg #[.int .i32 (t), .int .i32 (0), .int .i32 (0), .int .i32 (0)]) (by simp [results, Tryz.results34, go_sem, q0, q1, q2, q3]) rfl ⟨by rw [unhide E, ← unhide HT] <;> rfl, ext_set4 (unhide R).2 (by omega)⟩
  case neg =>
  have d32 : (fn == 32) = false := by simp [e32]
  by_cases e33 : fn = 33
  case pos =>
    subst e33
    have E : Hid (doI 33 base (m : Int) a b c = truI (sameN (m : Int) a b)) := rfl
    have HL := hide (fun wx => refAlike_any m a b wx (unhide HM).1 (unhide HM).2)
    obtain ⟨a0, a1, a2, a3⟩ := (unhide HB).1.vec4
    obtain ⟨b0, b1, b2, b3⟩ := (unhide HB).2.1.vec4
    cases hs : sameN (m : Int) a b
    all_goals rw [hs] at E HL
    all_goals clear hs
    · go_enter Tryz.func34, Tryz.ntmps34
      go_wp2_with (first | (go_at_call 48; refine (refTru_any _ _).mono ?_; rintro e w2 ⟨rfl, hw2⟩; obtain rfl := hw2.symm) | (go_at_call 49; refine (unhide HL _).mono ?_; rintro e w1 ⟨rfl, hx⟩; have R := hide (And.intro ((unhide HB).2.2.2.1.ext hx) ((unhide HB).2.2.2.2.trans hx)); clear hx HB; obtain ⟨r0, r1, r2, r3⟩ := (unhide R).1.vec4; obtain ⟨f0, f1, f2, f3⟩ := (unhide R).1.free4))
      obtain ⟨q0, q1, q2, q3⟩ := lay4 (unhide R).1 (.int .i32 (truI (false) 0)) (.int .i32 (0)) (.int .i32 (0)) (.int .i32 (0))
      refine bodyPost_ret (v := .agg #[.int .i32 (truI (false) 0), .int .i32 (0), .int .i32 (0), .int .i32 (0)]) (by simp [results, Tryz.results34, go_sem, q0, q1, q2, q3]) rfl ⟨by rw [unhide E] <;> rfl, ext_set4 (unhide R).2 (by omega)⟩
    · go_enter Tryz.func34, Tryz.ntmps34
      go_wp2_with (first | (go_at_call 48; refine (refTru_any _ _).mono ?_; rintro e w2 ⟨rfl, hw2⟩; obtain rfl := hw2.symm) | (go_at_call 49; refine (unhide HL _).mono ?_; rintro e w1 ⟨rfl, hx⟩; have R := hide (And.intro ((unhide HB).2.2.2.1.ext hx) ((unhide HB).2.2.2.2.trans hx)); clear hx HB; obtain ⟨r0, r1, r2, r3⟩ := (unhide R).1.vec4; obtain ⟨f0, f1, f2, f3⟩ := (unhide R).1.free4))
      obtain ⟨q0, q1, q2, q3⟩ := lay4 (unhide R).1 (.int .i32 (truI (true) 0)) (.int .i32 (0)) (.int .i32 (0)) (.int .i32 (0))
      refine bodyPost_ret (v := .agg #[.int .i32 (truI (true) 0), .int .i32 (0), .int .i32 (0), .int .i32 (0)]) (by simp [results, Tryz.results34, go_sem, q0, q1, q2, q3]) rfl ⟨by rw [unhide E] <;> rfl, ext_set4 (unhide R).2 (by omega)⟩
  case neg =>
  have d33 : (fn == 33) = false := by simp [e33]
  by_cases e34 : fn = 34
  case pos =>
    subst e34
    have E : Hid (doI 34 base (m : Int) a b c = truI (!sameN (m : Int) a b)) := rfl
    have HL := hide (fun wx => refAlike_any m a b wx (unhide HM).1 (unhide HM).2)
    obtain ⟨a0, a1, a2, a3⟩ := (unhide HB).1.vec4
    obtain ⟨b0, b1, b2, b3⟩ := (unhide HB).2.1.vec4
    cases hs : sameN (m : Int) a b
    all_goals rw [hs] at E HL
    all_goals clear hs
    · go_enter Tryz.func34, Tryz.ntmps34
      go_wp2_with (first | (go_at_call 48; refine (refTru_any _ _).mono ?_; rintro e w2 ⟨rfl, hw2⟩; obtain rfl := hw2.symm) | (go_at_call 49; refine (unhide HL _).mono ?_; rintro e w1 ⟨rfl, hx⟩; have R := hide (And.intro ((unhide HB).2.2.2.1.ext hx) ((unhide HB).2.2.2.2.trans hx)); clear hx HB; obtain ⟨r0, r1, r2, r3⟩ := (unhide R).1.vec4; obtain ⟨f0, f1, f2, f3⟩ := (unhide R).1.free4))
      obtain ⟨q0, q1, q2, q3⟩ := lay4 (unhide R).1 (.int .i32 (truI (true) 0)) (.int .i32 (0)) (.int .i32 (0)) (.int .i32 (0))
      refine bodyPost_ret (v := .agg #[.int .i32 (truI (true) 0), .int .i32 (0), .int .i32 (0), .int .i32 (0)]) (by simp [results, Tryz.results34, go_sem, q0, q1, q2, q3]) rfl ⟨by rw [unhide E] <;> rfl, ext_set4 (unhide R).2 (by omega)⟩
    · go_enter Tryz.func34, Tryz.ntmps34
      go_wp2_with (first | (go_at_call 48; refine (refTru_any _ _).mono ?_; rintro e w2 ⟨rfl, hw2⟩; obtain rfl := hw2.symm) | (go_at_call 49; refine (unhide HL _).mono ?_; rintro e w1 ⟨rfl, hx⟩; have R := hide (And.intro ((unhide HB).2.2.2.1.ext hx) ((unhide HB).2.2.2.2.trans hx)); clear hx HB; obtain ⟨r0, r1, r2, r3⟩ := (unhide R).1.vec4; obtain ⟨f0, f1, f2, f3⟩ := (unhide R).1.free4))
      obtain ⟨q0, q1, q2, q3⟩ := lay4 (unhide R).1 (.int .i32 (truI (false) 0)) (.int .i32 (0)) (.int .i32 (0)) (.int .i32 (0))
      refine bodyPost_ret (v := .agg #[.int .i32 (truI (false) 0), .int .i32 (0), .int .i32 (0), .int .i32 (0)]) (by simp [results, Tryz.results34, go_sem, q0, q1, q2, q3]) rfl ⟨by rw [unhide E] <;> rfl, ext_set4 (unhide R).2 (by omega)⟩
  case neg =>
  have d34 : (fn == 34) = false := by simp [e34]
  by_cases e35 : fn = 35
  case pos =>
    subst e35
    have E : Hid (doI 35 base (m : Int) a b c = truI (a 0 == 0)) := rfl
    have HL : Hid (∀ wx : World, Calls Tryz.prog 48 #[.bool (a 0 == 0)] wx fun e w' => e = .returned (.int .i32 (truI (a 0 == 0) 0)) ∧ Ext wx w') := fun wx => (refTru_any (a 0 == 0) wx).mono fun e w' h => ⟨h.1, h.2 ▸ Ext.refl _⟩
    obtain ⟨t, ht⟩ : ∃ t, truI (a 0 == 0) 0 = t := ⟨_, rfl⟩
    rw [ht] at HL
    have HT := hide ht
    clear ht
    go_enter Tryz.func34, Tryz.ntmps34
    go_wp2_with (first | (go_at_call 48; refine (unhide HL _).mono ?_; rintro e w1 ⟨rfl, hx⟩; have R := hide (And.intro ((unhide HB).2.2.2.1.ext hx) ((unhide HB).2.2.2.2.trans hx)); clear hx HB; obtain ⟨r0, r1, r2, r3⟩ := (unhide R).1.vec4; obtain ⟨f0, f1, f2, f3⟩ := (unhide R).1.free4))
    obtain ⟨q0, q1, q2, q3⟩ := lay4 (unhide R).1 (.int .i32 (t)) (.int .i32 (0)) (.int .i32 (0)) (.int .i32 (0))
    refine bodyPost_ret (v := .agg #[.int .i32 (t), .int .i32 (0), .int .i32 (0), .int .i32 (0)]) (by simp [results, Tryz.results34, go_sem, q0, q1, q2, q3]) rfl ⟨by rw [unhide E, ← unhide HT] <;> rfl, ext_set4 (unhide R).2 (by omega)⟩
  case neg =>
  have d35 : (fn == 35) = false := by simp [e35]
  by_cases e11 : fn = 11
  case pos =>
    subst e11
    have hb : base = 1 := by
      by_cases h : base = 1
      · exact h
      · exact absurd (by unfold argsP; rw [if_pos (by omega), if_neg h]) (unhide HAA)
    subst hb
    have E : Hid (doI 11 1 (m : Int) a b c = unitI a (m : Int)) := rfl
    have HL := hide (fun wx => refNormalize_any a (m : Int) wx (unhide HI).1)
    obtain ⟨a0, a1, a2, a3⟩ := (unhide HB).1.vec4
    go_enter Tryz.func34, Tryz.ntmps34
    go_wp2_with (first | (go_at_call 50; refine (unhide HL _).mono ?_; rintro e w1 ⟨rfl, hx⟩; have R := hide (And.intro ((unhide HB).2.2.2.1.ext hx) ((unhide HB).2.2.2.2.trans hx)); clear hx HB; obtain ⟨r0, r1, r2, r3⟩ := (unhide R).1.vec4; obtain ⟨f0, f1, f2, f3⟩ := (unhide R).1.free4))
    obtain ⟨q0, q1, q2, q3⟩ := lay4 (unhide R).1 (.int .i32 ((unitI a (m : Int)) 0)) (.int .i32 ((unitI a (m : Int)) 1)) (.int .i32 ((unitI a (m : Int)) 2)) (.int .i32 ((unitI a (m : Int)) 3))
    refine bodyPost_ret (v := .agg #[.int .i32 ((unitI a (m : Int)) 0), .int .i32 ((unitI a (m : Int)) 1), .int .i32 ((unitI a (m : Int)) 2), .int .i32 ((unitI a (m : Int)) 3)]) (by simp [results, Tryz.results34, go_sem, q0, q1, q2, q3]) rfl ⟨by rw [unhide E] <;> rfl, ext_set4 (unhide R).2 (by omega)⟩
  case neg =>
  have d11 : (fn == 11) = false := by simp [e11]
  by_cases e17 : fn = 17
  case pos =>
    subst e17
    have hb : base = 1 := by
      by_cases h : base = 1
      · exact h
      · exact absurd (by unfold argsP; rw [if_pos (by omega), if_neg h]) (unhide HAA)
    subst hb
    have E : Hid (doI 17 1 (m : Int) a b c = cut (m : Int) (fun i => addI (a i) (mulI (subI (b i) (a i)) (c i)))) := rfl
    have HL := hide (fun wx => refMix_any (m : Int) a b c wx (unhide HMI).1 (unhide HMI).2 (unhide HI).1 (unhide HI).2.1 (unhide HI).2.2)
    obtain ⟨a0, a1, a2, a3⟩ := (unhide HB).1.vec4
    obtain ⟨b0, b1, b2, b3⟩ := (unhide HB).2.1.vec4
    obtain ⟨c0, c1, c2, c3⟩ := (unhide HB).2.2.1.vec4
    go_enter Tryz.func34, Tryz.ntmps34
    go_wp2_with (first | (go_at_call 51; refine (unhide HL _).mono ?_; rintro e w1 ⟨rfl, hx⟩; have R := hide (And.intro ((unhide HB).2.2.2.1.ext hx) ((unhide HB).2.2.2.2.trans hx)); clear hx HB; obtain ⟨r0, r1, r2, r3⟩ := (unhide R).1.vec4; obtain ⟨f0, f1, f2, f3⟩ := (unhide R).1.free4))
    obtain ⟨q0, q1, q2, q3⟩ := lay4 (unhide R).1 (.int .i32 ((cut (m : Int) (fun i => addI (a i) (mulI (subI (b i) (a i)) (c i)))) 0)) (.int .i32 ((cut (m : Int) (fun i => addI (a i) (mulI (subI (b i) (a i)) (c i)))) 1)) (.int .i32 ((cut (m : Int) (fun i => addI (a i) (mulI (subI (b i) (a i)) (c i)))) 2)) (.int .i32 ((cut (m : Int) (fun i => addI (a i) (mulI (subI (b i) (a i)) (c i)))) 3))
    refine bodyPost_ret (v := .agg #[.int .i32 ((cut (m : Int) (fun i => addI (a i) (mulI (subI (b i) (a i)) (c i)))) 0), .int .i32 ((cut (m : Int) (fun i => addI (a i) (mulI (subI (b i) (a i)) (c i)))) 1), .int .i32 ((cut (m : Int) (fun i => addI (a i) (mulI (subI (b i) (a i)) (c i)))) 2), .int .i32 ((cut (m : Int) (fun i => addI (a i) (mulI (subI (b i) (a i)) (c i)))) 3)]) (by simp [results, Tryz.results34, go_sem, q0, q1, q2, q3]) rfl ⟨by rw [unhide E] <;> rfl, ext_set4 (unhide R).2 (by omega)⟩
  case neg =>
  have d17 : (fn == 17) = false := by simp [e17]
  by_cases e18 : fn = 18
  case pos =>
    subst e18
    have hb : base = 1 := by
      by_cases h : base = 1
      · exact h
      · exact absurd (by unfold argsP; rw [if_pos (by omega), if_neg h]) (unhide HAA)
    subst hb
    have E : Hid (doI 18 1 (m : Int) a b c = cut (m : Int) (fun i => clampI (a i) (b i) (c i))) := rfl
    have HL := hide (fun wx => refClampV_any (m : Int) a b c wx (unhide HMI).1 (unhide HMI).2 (unhide HI).1 (unhide HI).2.1 (unhide HI).2.2)
    obtain ⟨a0, a1, a2, a3⟩ := (unhide HB).1.vec4
    obtain ⟨b0, b1, b2, b3⟩ := (unhide HB).2.1.vec4
    obtain ⟨c0, c1, c2, c3⟩ := (unhide HB).2.2.1.vec4
    go_enter Tryz.func34, Tryz.ntmps34
    go_wp2_with (first | (go_at_call 52; refine (unhide HL _).mono ?_; rintro e w1 ⟨rfl, hx⟩; have R := hide (And.intro ((unhide HB).2.2.2.1.ext hx) ((unhide HB).2.2.2.2.trans hx)); clear hx HB; obtain ⟨r0, r1, r2, r3⟩ := (unhide R).1.vec4; obtain ⟨f0, f1, f2, f3⟩ := (unhide R).1.free4))
    obtain ⟨q0, q1, q2, q3⟩ := lay4 (unhide R).1 (.int .i32 ((cut (m : Int) (fun i => clampI (a i) (b i) (c i))) 0)) (.int .i32 ((cut (m : Int) (fun i => clampI (a i) (b i) (c i))) 1)) (.int .i32 ((cut (m : Int) (fun i => clampI (a i) (b i) (c i))) 2)) (.int .i32 ((cut (m : Int) (fun i => clampI (a i) (b i) (c i))) 3))
    refine bodyPost_ret (v := .agg #[.int .i32 ((cut (m : Int) (fun i => clampI (a i) (b i) (c i))) 0), .int .i32 ((cut (m : Int) (fun i => clampI (a i) (b i) (c i))) 1), .int .i32 ((cut (m : Int) (fun i => clampI (a i) (b i) (c i))) 2), .int .i32 ((cut (m : Int) (fun i => clampI (a i) (b i) (c i))) 3)]) (by simp [results, Tryz.results34, go_sem, q0, q1, q2, q3]) rfl ⟨by rw [unhide E] <;> rfl, ext_set4 (unhide R).2 (by omega)⟩
  case neg =>
  have d18 : (fn == 18) = false := by simp [e18]
  by_cases e19 : fn = 19
  case pos =>
    subst e19
    have hb : base = 1 := by
      by_cases h : base = 1
      · exact h
      · exact absurd (by unfold argsP; rw [if_pos (by omega), if_neg h]) (unhide HAA)
    subst hb
    have E : Hid (doI 19 1 (m : Int) a b c = fstI (sumI (cut (m : Int) (fun i => mulI (a i) (b i))) 4)) := rfl
    have HL := hide (fun wx => refDot_any (m : Int) a b wx (unhide HMI).1 (unhide HMI).2 (unhide HI).1 (unhide HI).2.1)
    obtain ⟨a0, a1, a2, a3⟩ := (unhide HB).1.vec4
    obtain ⟨b0, b1, b2, b3⟩ := (unhide HB).2.1.vec4
    go_enter Tryz.func34, Tryz.ntmps34
    go_wp2_with (first | (go_at_call 53; refine (unhide HL _).mono ?_; rintro e w1 ⟨rfl, hx⟩; have R := hide (And.intro ((unhide HB).2.2.2.1.ext hx) ((unhide HB).2.2.2.2.trans hx)); clear hx HB; obtain ⟨r0, r1, r2, r3⟩ := (unhide R).1.vec4; obtain ⟨f0, f1, f2, f3⟩ := (unhide R).1.free4))
    obtain ⟨q0, q1, q2, q3⟩ := lay4 (unhide R).1 (.int .i32 (sumI (cut (m : Int) (fun i => mulI (a i) (b i))) 4)) (.int .i32 (0)) (.int .i32 (0)) (.int .i32 (0))
    refine bodyPost_ret (v := .agg #[.int .i32 (sumI (cut (m : Int) (fun i => mulI (a i) (b i))) 4), .int .i32 (0), .int .i32 (0), .int .i32 (0)]) (by simp [results, Tryz.results34, go_sem, q0, q1, q2, q3]) rfl ⟨by rw [unhide E] <;> rfl, ext_set4 (unhide R).2 (by omega)⟩
  case neg =>
  have d19 : (fn == 19) = false := by simp [e19]
  by_cases e20 : fn = 20
  case pos =>
    subst e20
    have hb : base = 1 := by
      by_cases h : base = 1
      · exact h
      · exact absurd (by unfold argsP; rw [if_pos (by omega), if_neg h]) (unhide HAA)
    subst hb
    have E : Hid (doI 20 1 (m : Int) a b c = fstI (lengthI a (m : Int))) := rfl
    have HL := hide (fun wx => refLength_any a (m : Int) wx (unhide HI).1)
    obtain ⟨a0, a1, a2, a3⟩ := (unhide HB).1.vec4
    go_enter Tryz.func34, Tryz.ntmps34
    go_wp2_with (first | (go_at_call 54; refine (unhide HL _).mono ?_; rintro e w1 ⟨rfl, hx⟩; have R := hide (And.intro ((unhide HB).2.2.2.1.ext hx) ((unhide HB).2.2.2.2.trans hx)); clear hx HB; obtain ⟨r0, r1, r2, r3⟩ := (unhide R).1.vec4; obtain ⟨f0, f1, f2, f3⟩ := (unhide R).1.free4))
    obtain ⟨q0, q1, q2, q3⟩ := lay4 (unhide R).1 (.int .i32 (lengthI a (m : Int))) (.int .i32 (0)) (.int .i32 (0)) (.int .i32 (0))
    refine bodyPost_ret (v := .agg #[.int .i32 (lengthI a (m : Int)), .int .i32 (0), .int .i32 (0), .int .i32 (0)]) (by simp [results, Tryz.results34, go_sem, q0, q1, q2, q3]) rfl ⟨by rw [unhide E] <;> rfl, ext_set4 (unhide R).2 (by omega)⟩
  case neg =>
  have d20 : (fn == 20) = false := by simp [e20]
  by_cases e21 : fn = 21
  case pos =>
    subst e21
    have hb : base = 1 := by
      by_cases h : base = 1
      · exact h
      · exact absurd (by unfold argsP; rw [if_pos (by omega), if_neg h]) (unhide HAA)
    subst hb
    have E : Hid (doI 21 1 (m : Int) a b c = crsI a b) := rfl
    have HL := hide (fun wx => refCross_any a b wx (unhide HI).1 (unhide HI).2.1)
    obtain ⟨a0, a1, a2, a3⟩ := (unhide HB).1.vec4
    obtain ⟨b0, b1, b2, b3⟩ := (unhide HB).2.1.vec4
    go_enter Tryz.func34, Tryz.ntmps34
    go_wp2_with (first | (go_at_call 55; refine (unhide HL _).mono ?_; rintro e w1 ⟨rfl, hx⟩; have R := hide (And.intro ((unhide HB).2.2.2.1.ext hx) ((unhide HB).2.2.2.2.trans hx)); clear hx HB; obtain ⟨r0, r1, r2, r3⟩ := (unhide R).1.vec4; obtain ⟨f0, f1, f2, f3⟩ := (unhide R).1.free4))
    obtain ⟨q0, q1, q2, q3⟩ := lay4 (unhide R).1 (.int .i32 (crossI a b 1 2)) (.int .i32 (crossI a b 2 0)) (.int .i32 (crossI a b 0 1)) (.int .i32 (0))
    refine bodyPost_ret (v := .agg #[.int .i32 (crossI a b 1 2), .int .i32 (crossI a b 2 0), .int .i32 (crossI a b 0 1), .int .i32 (0)]) (by simp [results, Tryz.results34, go_sem, q0, q1, q2, q3]) rfl ⟨by rw [unhide E] <;> rfl, ext_set4 (unhide R).2 (by omega)⟩
  case neg =>
  have d21 : (fn == 21) = false := by simp [e21]
  clear HB
  by_cases eb : base = 2
  case pos =>
    subst eb
    have hf : 24 ≤ fn ∧ fn ≤ 28 := by
      have h := unhide HAA
      unfold argsP at h
      repeat' split at h
      all_goals first | omega | exact absurd rfl h
    have E : doI fn 2 (m : Int) a b c = cut (m : Int) (fun i => whI fn (a i) (b i)) := by
      unfold doI
      rw [if_neg e29, if_neg e30, if_neg e31, if_neg e32, if_neg e33, if_neg e34, if_neg e35, if_pos rfl]
      unfold oiI whI
      rcases (by omega : fn = 24 ∨ fn = 25 ∨ fn = 26 ∨ fn = 27 ∨ fn = 28) with rfl | rfl | rfl | rfl | rfl <;> rfl
    rw [E]
    exact ap30_any fn m a b c _ w (unhide HM).2 d29 d30 d31 d32 d33 d34 d35 d11 d17 d18 d19 d20 d21 (unhide HI |>.1) (unhide HI |>.2.1) (fun k wx => refWhole_any fn (a k) (b k) wx ((unhide HI).1 k) ((unhide HI).2.1 k))
  case neg =>
  have db : (base == 2) = false := by simp [eb]
  have hb1 : base = 1 ∧ ((1 ≤ fn ∧ fn ≤ 21) ∨ fn = 28 ∨ (24 ≤ fn ∧ fn ≤ 27)) := by
    have h := unhide HAA
    unfold argsP at h
    repeat' split at h
    all_goals first | omega | exact absurd rfl h
  have E : doI fn base (m : Int) a b c = bcI fn (m : Int) a b := by
    unfold doI
    rw [if_neg e29, if_neg e30, if_neg e31, if_neg e32, if_neg e33, if_neg e34, if_neg e35, if_neg eb]
    unfold ofI
    rw [if_neg e17, if_neg e18, if_neg e19, if_neg e20, if_neg e21, if_neg e11]
  rw [E]
  by_cases k24 : 24 ≤ fn ∧ fn ≤ 27
  case pos =>
    have E2 : bcI fn (m : Int) a b = cut (m : Int) (fun i => twoI (fn - 24) (a i) (b i)) := by
      rcases (by omega : fn = 24 ∨ fn = 25 ∨ fn = 26 ∨ fn = 27) with rfl | rfl | rfl | rfl <;> rfl
    rw [E2]
    exact ap32_any fn base m a b c _ w (unhide HM).2 d29 d30 d31 d32 d33 d34 d35 d11 d17 d18 d19 d20 d21 db (decide_eq_true k24.1) (decide_eq_true k24.2) (by simp [IntKind.wrap, IntKind.bits, IntKind.signed]; omega) (fun k wx => refTwo_any (fn - 24) (a k) (b k) wx (by omega) (by omega) ((unhide HI).1 k) ((unhide HI).2.1 k))
  case neg =>
  by_cases e28 : fn = 28
  case pos =>
    subst e28
    have E2 : bcI 28 (m : Int) a b = cut (m : Int) (fun i => negI (a i)) := rfl
    rw [E2]
    exact ap34_any base m a b c _ w (unhide HM).2 db (fun k wx => (refNeg_any (a k) wx ((unhide HI).1 k)).mono fun e w' h => ⟨h.1, h.2 ▸ Ext.refl _⟩)
  case neg =>
  have d28 : (fn == 28) = false := by simp [e28]
  have g24 : decide (24 ≤ fn) = false := decide_eq_false (by omega)
  by_cases e15 : fn = 15
  case pos =>
    subst e15
    have E2 : bcI 15 (m : Int) a b = cut (m : Int) (fun i => powerI (a i) (b i)) := rfl
    rw [E2]
    exact ap36_any base m a b c _ w (unhide HM).2 db (fun k wx => refPowOf_any (a k) (b k) wx ((unhide HI).1 k) ((unhide HI).2.1 k))
  case neg =>
  have d15 : (fn == 15) = false := by simp [e15]
  by_cases k12 : 12 ≤ fn ∧ fn ≤ 14
  case pos =>
    have E2 : bcI fn (m : Int) a b = cut (m : Int) (fun i => twoI (fn - 8) (a i) (b i)) := by
      rcases (by omega : fn = 12 ∨ fn = 13 ∨ fn = 14) with rfl | rfl | rfl <;> rfl
    rw [E2]
    exact ap38_any fn base m a b c _ w (unhide HM).2 d29 d30 d31 d32 d33 d34 d35 d11 d17 d18 d19 d20 d21 d28 d15 db g24 (decide_eq_true k12.1) (decide_eq_true k12.2) (by simp [IntKind.wrap, IntKind.bits, IntKind.signed]; omega) (fun k wx => refTwo_any (fn - 8) (a k) (b k) wx (by omega) (by omega) ((unhide HI).1 k) ((unhide HI).2.1 k))
  case neg =>
  by_cases e16 : fn = 16
  case pos =>
    subst e16
    have E2 : bcI 16 (m : Int) a b = cut (m : Int) (fun i => twoI 7 (a i) (b i)) := rfl
    rw [E2]
    exact ap40_any base m a b c _ w (unhide HM).2 db (fun k wx => refTwo_any 7 (a k) (b k) wx (by omega) (by omega) ((unhide HI).1 k) ((unhide HI).2.1 k))
  case neg =>
  have d16 : (fn == 16) = false := by simp [e16]
  have hf : 1 ≤ fn ∧ fn ≤ 10 := by omega
  have E2 : bcI fn (m : Int) a b = cut (m : Int) (fun i => sgI fn (a i)) := by
    rcases (by omega : fn = 1 ∨ fn = 2 ∨ fn = 3 ∨ fn = 4 ∨ fn = 5 ∨ fn = 6 ∨ fn = 7 ∨ fn = 8 ∨ fn = 9 ∨ fn = 10) with rfl | rfl | rfl | rfl | rfl | rfl | rfl | rfl | rfl | rfl <;> rfl
  rw [E2]
  exact ap41_any fn base m a b c _ w (unhide HM).2 d29 d30 d31 d32 d33 d34 d35 d11 d17 d18 d19 d20 d21 d28 d15 d16 db g24 (decide_eq_false (by omega)) (fun k wx => refSingle_any fn (a k) wx hf.1 hf.2 ((unhide HI).1 k))
end Go.Proofs.YtglfhmlcmffoaaaGreat
