/-
  Images: the document's Same.
-/
import Derived.Test.YtpjapdifmfpcnaaRS
namespace Go.Proofs.Ytpjapdifmfpcnaa
open Go.RowKit
set_option linter.unusedVariables false
set_option linter.unusedSimpArgs false

set_option maxRecDepth 10000 in
set_option maxHeartbeats 8000000 in
theorem refSame_any {w : World} {v u : Value} {L M : List Ent} {I J : Img} (h : LR w v L) (hu : LR w u M) (hA : I.L = absL L) (hB : J.L = absL M) (b1 : ∀ p ∈ L, Byt p.2.2.2) (b2 : ∀ p ∈ M, Byt p.2.2.2) :
    Calls Try.prog 15 #[.agg #[.int .i64 I.f, v, .int .i64 I.ws, .int .i64 I.wt, .int .i64 I.mn, .int .i64 I.mg], .agg #[.int .i64 J.f, u, .int .i64 J.ws, .int .i64 J.wt, .int .i64 J.mn, .int .i64 J.mg]] w fun e w' => e = .returned (.bool (sameB I J)) ∧ Ext w w' := by
  obtain ⟨ao, cap, rfl, hao, hlc, hcm, _⟩ := h.shape
  have hcm2 : cap ≤ 9223372036854775807 := by unfold maxLen at hcm; omega
  obtain ⟨a2, cp2, rfl, hao2, hlc2, hcm3, _⟩ := hu.shape
  have hcm4 : cp2 ≤ 9223372036854775807 := by unfold maxLen at hcm3; omega
  have HX := hide (((Ext.refl w).alloc (.cells #[.int .i64 I.f, .slice ao L.length cap, .int .i64 I.ws, .int .i64 I.wt, .int .i64 I.mn, .int .i64 I.mg] 24)).alloc (.cells #[.int .i64 J.f, .slice a2 M.length cp2, .int .i64 J.ws, .int .i64 J.wt, .int .i64 J.mn, .int .i64 J.mg] 24))
  have HB1 := hide b1
  have HB2 := hide b2
  have HH := hide h
  have HU := hide hu
  have HA := hide hA
  have HB := hide hB
  clear h hu hA hB hao hao2 hcm hcm3 b1 b2
  have fin : ∀ (c : ¬ (I.f = J.f ∧ I.L = J.L ∧ I.ws = J.ws ∧ I.wt = J.wt ∧ I.mn = J.mn ∧ I.mg = J.mg)), sameB I J = false := fun c => same_no c
  have HF := hide fin
  clear fin
  obtain ⟨f1, A1, s1, t1, n1, g1⟩ := I
  obtain ⟨f2, A2, s2, t2, n2, g2⟩ := J
  dsimp only at *
  by_cases e0 : f1 = f2
  case neg =>
    have E := hide (unhide HF fun c => e0 c.1)
    have d0 : (f1 != f2) = true := by simp [e0]
    clear HF e0
    go_enter Try.func15, Try.ntmps15
    go_wp2
    go_ret
    rw [unhide E]
    exact ⟨rfl, unhide HX⟩
  subst e0
  by_cases eL : L.length = M.length
  case neg =>
    have E := hide (unhide HF fun c => eL (by
      have h9 := congrArg List.length c.2.1
      rw [unhide HA, unhide HB, absL_len, absL_len] at h9
      exact h9))
    have d0 : ((L.length : Int) != (M.length : Int)) = true := by simp; omega
    clear HF eL
    go_enter Try.func15, Try.ntmps15
    go_wp2
    go_ret
    rw [unhide E]
    exact ⟨rfl, unhide HX⟩
  have HLM := hide eL
  rw [← eL] at HX HU hlc2 ⊢
  clear eL
  by_cases e1 : s1 = s2
  case neg =>
    have E := hide (unhide HF fun c => e1 c.2.2.1)
    have d0 : (s1 != s2) = true := by simp [e1]
    clear HF e1
    go_enter Try.func15, Try.ntmps15
    go_wp2
    go_ret
    rw [unhide E]
    exact ⟨rfl, unhide HX⟩
  subst e1
  by_cases e2 : t1 = t2
  case neg =>
    have E := hide (unhide HF fun c => e2 c.2.2.2.1)
    have d0 : (t1 != t2) = true := by simp [e2]
    clear HF e2
    go_enter Try.func15, Try.ntmps15
    go_wp2
    go_ret
    rw [unhide E]
    exact ⟨rfl, unhide HX⟩
  subst e2
  by_cases e3 : n1 = n2
  case neg =>
    have E := hide (unhide HF fun c => e3 c.2.2.2.2.1)
    have d0 : (n1 != n2) = true := by simp [e3]
    clear HF e3
    go_enter Try.func15, Try.ntmps15
    go_wp2
    go_ret
    rw [unhide E]
    exact ⟨rfl, unhide HX⟩
  subst e3
  by_cases e4 : g1 = g2
  case neg =>
    have E := hide (unhide HF fun c => e4 c.2.2.2.2.2)
    have d0 : (g1 != g2) = true := by simp [e4]
    clear HF e4
    go_enter Try.func15, Try.ntmps15
    go_wp2
    go_ret
    rw [unhide E]
    exact ⟨rfl, unhide HX⟩
  subst e4
  have HBk := hide (And.intro ((Blk.new w #[.int .i64 f1, .slice ao L.length cap, .int .i64 s1, .int .i64 t1, .int .i64 n1, .int .i64 g1] 24).alloc (.cells #[.int .i64 f1, .slice a2 L.length cp2, .int .i64 s1, .int .i64 t1, .int .i64 n1, .int .i64 g1] 24))
    (show Blk ((w.alloc (.cells #[.int .i64 f1, .slice ao L.length cap, .int .i64 s1, .int .i64 t1, .int .i64 n1, .int .i64 g1] 24)).alloc (.cells #[.int .i64 f1, .slice a2 L.length cp2, .int .i64 s1, .int .i64 t1, .int .i64 n1, .int .i64 g1] 24)) (w.heap.size + 1) #[.int .i64 f1, .slice a2 L.length cp2, .int .i64 s1, .int .i64 t1, .int .i64 n1, .int .i64 g1] 24 from Blk.at (by simp)))
  go_enter Try.func15, Try.ntmps15
  go_wp2_with fail
  generalize (w.alloc (.cells #[.int .i64 f1, .slice ao L.length cap, .int .i64 s1, .int .i64 t1, .int .i64 n1, .int .i64 g1] 24)).alloc (.cells #[.int .i64 f1, .slice a2 L.length cp2, .int .i64 s1, .int .i64 t1, .int .i64 n1, .int .i64 g1] 24) = w1 at HX HBk ⊢
  go_loopw [51] (fun iv wr => ∃ k n : Nat, k ≤ L.length ∧ iv = .int .i64 (k : Int) ∧ wr = w1.drewN n ∧ (absL L).take k = (absL M).take k) (fun iv _ => L.length - (intOf iv).toNat)
  case atStart => exact ⟨0, 0, Nat.zero_le _, rfl, rfl, by simp⟩
  case round =>
    obtain ⟨k, n, hk, rfl, rfl, htk⟩ := hrel
    have hxn : Ext w w1 := unhide HX
    have q1 := (unhide HBk).1.six.2.1
    have r1 := (unhide HBk).2.six.2.1
    have HT := hide htk
    by_cases hlt : k < L.length
    · have hkn : (k : Int) < (L.length : Int) := by omega
      have hkM : k < M.length := by rw [← unhide HLM]; exact hlt
      obtain ⟨b, off, bo, bcap, ea, eb, c0, c1, c2, hr⟩ := ((unhide HH).ext hxn).at k hlt
      obtain ⟨b', off', bo', bcap', ea', eb', c0', c1', c2', hr'⟩ := ((unhide HU).ext hxn).at k hkM
      subst ea
      subst ea'
      have bb := unhide HB1 _ (List.getElem_mem hlt)
      have bb' := unhide HB2 _ (List.getElem_mem hkM)
      have hst := fun n m => str_of bo _ bcap _ ((w1.drewN n).drewN m) (hr.ext (((Ext.refl w1).drewN n).drewN m)) rfl
      have hst' := fun n m => str_of bo' _ bcap' _ ((w1.drewN n).drewN m) (hr'.ext (((Ext.refl w1).drewN n).drewN m)) rfl
      have hse := str_ne bb bb'
      have HNE : Hid (absE L[k] ≠ absE M[k] → sameB ⟨f1, A1, s1, t1, n1, g1⟩ ⟨f1, A2, s1, t1, n1, g1⟩ = false) := fun hne => unhide HF fun c => hne (by
        have h9 := c.2.1
        rw [unhide HA, unhide HB] at h9
        have h8 := absL_get L k hlt
        have h7 := absL_get M k hkM
        rw [← h8, ← h7]
        congr 1)
      have HEQ : Hid (absE L[k] = absE M[k] → (absL L).take (k + 1) = (absL M).take (k + 1)) := fun heq => by
        rw [List.take_succ_eq_append_getElem (by rw [absL_len]; exact hlt), List.take_succ_eq_append_getElem (by rw [absL_len]; exact hkM), unhide HT, absL_get L k hlt, absL_get M k hkM, heq]
      have eE : absE L[k] = (L[k].1, L[k].2.1, L[k].2.2.2) := rfl
      have eE' : absE M[k] = (M[k].1, M[k].2.1, M[k].2.2.2) := rfl
      rw [eE, eE'] at HNE HEQ
      generalize L[k].1 = W at *
      generalize L[k].2.1 = H at *
      generalize L[k].2.2.2 = xs at *
      generalize M[k].1 = W' at *
      generalize M[k].2.1 = H' at *
      generalize M[k].2.2.2 = ys at *
      clear eb eb' hr hr' bb bb' eE eE' htk
      by_cases dW : W = W'
      case neg =>
        have E := hide (unhide HNE fun c => dW (congrArg (fun p => p.1) c))
        have d0 : (W != W') = true := by simp [dW]
        clear dW HNE HEQ c2 c2' hst hst' hse hxn
        go_upto_region 6 with fail
        go_quiet (fail)
        go_wp2
        go_ret
        rw [unhide E]
        exact ⟨rfl, (unhide HX).trans (((Ext.refl w1).drewN n).drewN _)⟩
      case pos =>
      subst dW
      by_cases dH : H = H'
      case neg =>
        have E := hide (unhide HNE fun c => dH (congrArg (fun p => p.2.1) c))
        have d0 : (H != H') = true := by simp [dH]
        clear dH HNE HEQ c2 c2' hst hst' hse hxn
        go_upto_region 6 with fail
        go_quiet (fail)
        go_wp2
        go_ret
        rw [unhide E]
        exact ⟨rfl, (unhide HX).trans (((Ext.refl w1).drewN n).drewN _)⟩
      case pos =>
      subst dH
      by_cases dB : xs = ys
      case neg =>
        have E := hide (unhide HNE fun c => dB (congrArg (fun p => p.2.2) c))
        rw [decide_eq_false dB] at hse
        generalize xs.length = xn at *
        generalize ys.length = yn at *
        generalize strOfNums xs = sx at *
        generalize strOfNums ys = sy at *
        have HC1 := hide hst
        have HC2 := hide hst'
        clear dB HNE HEQ hxn hst hst'
        go_upto_region 6 with fail
        refine wp_region_quiet_lit (by kernel_rfl) (by kernel_rfl) ?_
        repeat (first
          | go_big_quiet_step (fail)
          | (go_big_quiet_want; refine quiet_conv 27 9 (.tmp 88) rfl (.slice bo xn bcap) (.string sx) rfl (by rintro _ ⟨m, rfl⟩; exact unhide HC1 _ _) ?_; go_simp; go_big_quiet_on)
          | (go_big_quiet_want; refine quiet_conv 27 9 (.tmp 95) rfl (.slice bo' yn bcap') (.string sy) rfl (by rintro _ ⟨m, rfl⟩; exact unhide HC2 _ _) ?_; go_simp; go_big_quiet_on))
        refine wpQuiet_nil ?_
        intro _ hw'
        obtain ⟨nq, hw''⟩ := hw'
        subst hw''
        go_wp2
        go_ret
        rw [unhide E]
        exact ⟨rfl, (unhide HX).trans (((Ext.refl w1).drewN n).drewN _)⟩
      case pos =>
        have E := hide (unhide HEQ (by rw [dB]))
        rw [decide_eq_true dB] at hse
        generalize xs.length = xn at *
        generalize ys.length = yn at *
        generalize strOfNums xs = sx at *
        generalize strOfNums ys = sy at *
        have HC1 := hide hst
        have HC2 := hide hst'
        clear dB HNE HEQ hxn hst hst'
        go_upto_region 6 with fail
        refine wp_region_quiet_lit (by kernel_rfl) (by kernel_rfl) ?_
        repeat (first
          | go_big_quiet_step (fail)
          | (go_big_quiet_want; refine quiet_conv 27 9 (.tmp 88) rfl (.slice bo xn bcap) (.string sx) rfl (by rintro _ ⟨m, rfl⟩; exact unhide HC1 _ _) ?_; go_simp; go_big_quiet_on)
          | (go_big_quiet_want; refine quiet_conv 27 9 (.tmp 95) rfl (.slice bo' yn bcap') (.string sy) rfl (by rintro _ ⟨m, rfl⟩; exact unhide HC2 _ _) ?_; go_simp; go_big_quiet_on))
        refine wpQuiet_nil ?_
        intro _ hw'
        obtain ⟨nq, hw''⟩ := hw'
        subst hw''
        go_wp2
        go_roundw
        case rel => exact ⟨k + 1, n + nq, by omega, by go_num, by first | rfl | exact drewN_drewN _ _ _, unhide E⟩
        case measure => simp [intOf]; omega
    · obtain rfl : k = L.length := by omega
      have E := hide (show sameB ⟨f1, A1, s1, t1, n1, g1⟩ ⟨f1, A2, s1, t1, n1, g1⟩ = true by
        have h1 := unhide HT
        rw [List.take_of_length_le (by rw [absL_len]; omega), List.take_of_length_le (by rw [absL_len, unhide HLM]; omega), ← unhide HA, ← unhide HB] at h1
        have h2 : A1 = A2 := h1
        subst h2
        exact same_refl _)
      clear hxn htk HT
      go_wp2
      go_ret
      rw [unhide E]
      exact ⟨rfl, (unhide HX).drewN n⟩
end Go.Proofs.Ytpjapdifmfpcnaa
