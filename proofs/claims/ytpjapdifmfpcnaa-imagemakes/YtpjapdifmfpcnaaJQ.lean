/-
  Images: the program's Same.
-/
import Derived.Test.YtpjapdifmfpcnaaRS
import Derived.Shelf.Abstract
import Derived.Laws.EntriesVeiled
namespace Go.Proofs.Ytpjapdifmfpcnaa
open Go.RowKit
set_option linter.unusedVariables false
set_option linter.unusedSimpArgs false

set_option maxRecDepth 10000 in
set_option maxHeartbeats 2000000 in
theorem eq_any (ao ap : Option Addr) (cap cbp : Nat) (xs ys : List Int) (w : World) (hr : Row .u8 w (.slice ao xs.length cap) xs) (hs : Row .u8 w (.slice ap ys.length cbp) ys) :
    Calls Try.prog 43 #[.slice ao xs.length cap, .slice ap ys.length cbp] w fun e w' => e = .returned (.bool (decide (xs = ys))) ∧ Ext w w' := by
  have hcp : xs.length ≤ cap ∧ cap ≤ 9223372036854775807 ∧ ys.length ≤ cbp ∧ cbp ≤ 9223372036854775807 := by
    obtain ⟨_, _, e9, _, h9, h10⟩ := hr.shape
    cases e9
    obtain ⟨_, _, e9, _, h11, h12⟩ := hs.shape
    cases e9
    unfold maxLen at h10 h12
    exact ⟨h9, by omega, h11, by omega⟩
  obtain ⟨hc1, hc2, hc3, hc4⟩ := hcp
  have HR := hide hr
  have HS := hide hs
  clear hr hs
  by_cases el : xs.length = ys.length
  case neg =>
    have E := hide (decide_eq_false (fun c : xs = ys => el (by rw [c])))
    have d0 : ((xs.length : Int) != (ys.length : Int)) = true := by simp; omega
    clear el
    go_enter Try.func43, Try.ntmps43
    go_wp2
    go_ret
    rw [unhide E]
    exact ⟨rfl, Ext.refl _⟩
  case pos =>
  have HL := hide el
  rw [← el] at HS hc3 ⊢
  clear el
  go_enter Try.func43, Try.ntmps43
  go_wp2
  go_loopw [13] (fun iv wr => ∃ k n : Nat, k ≤ xs.length ∧ iv = .int .i64 (k : Int) ∧ wr = w.drewN n ∧ xs.take k = ys.take k) (fun iv _ => xs.length - (intOf iv).toNat)
  case atStart => exact ⟨0, 0, Nat.zero_le _, rfl, rfl, by simp⟩
  case round =>
    obtain ⟨k, n, hk, rfl, rfl, htk⟩ := hrel
    have HT := hide htk
    by_cases hlt : k < xs.length
    · have hkn : (k : Int) < (xs.length : Int) := by omega
      have hkM : k < ys.length := by rw [← unhide HL]; exact hlt
      obtain ⟨b, off, ea, hc⟩ := (unhide HR).at k hlt
      obtain ⟨b', off', ea', hc'⟩ := (unhide HS).at k hkM
      subst ea
      subst ea'
      have c0 := hc k hlt
      have c0' := hc' k (by first | exact hkM | exact hlt)
      have HNE : Hid (xs[k] ≠ ys[k] → decide (xs = ys) = false) := fun hne => decide_eq_false fun c => hne (by subst c; rfl)
      have HEQ : Hid (xs[k] = ys[k] → xs.take (k + 1) = ys.take (k + 1)) := fun heq => by
        rw [List.take_succ_eq_append_getElem hlt, List.take_succ_eq_append_getElem hkM, unhide HT, heq]
      generalize xs[k] = x at *
      generalize ys[k] = y at *
      clear hc hc' htk
      by_cases d : x = y
      case neg =>
        have E := hide (unhide HNE d)
        have d0 : (x != y) = true := by simp [d]
        clear HNE HEQ d
        go_upto_region 6 with fail
        go_quiet (fail)
        go_wp2
        go_ret
        rw [unhide E]
        exact ⟨rfl, ((Ext.refl w).drewN n).drewN _⟩
      case pos =>
        have E := hide (unhide HEQ d)
        subst d
        clear HNE HEQ
        go_upto_region 6 with fail
        go_quiet (fail)
        go_wp2
        go_roundw
        case rel => exact ⟨k + 1, n + nq, by omega, by go_num, by first | rfl | exact drewN_drewN _ _ _, unhide E⟩
        case measure => simp [intOf]; omega
    · obtain rfl : k = xs.length := by omega
      have E := hide (decide_eq_true (show xs = ys by
        have h1 := unhide HT
        rw [List.take_of_length_le (by omega), List.take_of_length_le (by rw [unhide HL]; omega)] at h1
        exact h1))
      clear htk HT
      go_wp2
      go_ret
      rw [unhide E]
      exact ⟨rfl, (Ext.refl w).drewN n⟩

set_option maxRecDepth 10000 in
set_option maxHeartbeats 2000000 in
theorem same1_any (W H W' H' : Int) (ao ap : Option Addr) (cap cbp : Nat) (xs ys : List Int) (w : World) (hr : Row .u8 w (.slice ao xs.length cap) xs) (hs : Row .u8 w (.slice ap ys.length cbp) ys) :
    Calls Try.prog 42 #[.agg #[.int .i64 W, .int .i64 H, .slice ao xs.length cap], .agg #[.int .i64 W', .int .i64 H', .slice ap ys.length cbp]] w fun e w' => e = .returned (.bool (decide ((W, H, xs) = (W', H', ys)))) ∧ Ext w w' := by
  have HX := hide (((Ext.refl w).alloc (.cells #[.int .i64 W, .int .i64 H, .slice ao xs.length cap] 48)).alloc (.cells #[.int .i64 W', .int .i64 H', .slice ap ys.length cbp] 48))
  have HR := hide (And.intro hr hs)
  clear hr hs
  by_cases d : W = W'
  case neg =>
    have E := hide (decide_eq_false (fun c : (W, H, xs) = (W', H', ys) => d (congrArg (fun p => p.1) c)))
    have d0 : (W == W') = false := by simp [d]
    clear d
    go_enter Try.func42, Try.ntmps42
    go_wp2
    go_ret
    rw [unhide E]
    exact ⟨rfl, unhide HX⟩
  case pos =>
  subst d
  by_cases d : H = H'
  case neg =>
    have E := hide (decide_eq_false (fun c : (W, H, xs) = (W, H', ys) => d (congrArg (fun p => p.2.1) c)))
    have d0 : (H == H') = false := by simp [d]
    clear d
    go_enter Try.func42, Try.ntmps42
    go_wp2
    go_ret
    rw [unhide E]
    exact ⟨rfl, unhide HX⟩
  case pos =>
  subst d
  have E : Hid (decide ((W, H, xs) = (W, H, ys)) = decide (xs = ys)) := by show _ = _; simp
  go_enter Try.func42, Try.ntmps42
  go_wp2_with fail
  refine (eq_any ao ap cap cbp xs ys _ ((unhide HR).1.ext (unhide HX)) ((unhide HR).2.ext (unhide HX))).mono ?_
  rintro e w2 ⟨rfl, hx2⟩
  have HX2 := hide ((unhide HX).trans hx2)
  clear hx2
  go_wp2
  go_ret
  rw [unhide E]
  exact ⟨rfl, unhide HX2⟩
theorem same1_enters : ∀ args w, (callFunc 42 args).run Try.prog w = .ok (.enter 42 args) w := enters_of Try.func42 (by kernel_rfl) rfl

set_option maxRecDepth 10000 in
set_option maxHeartbeats 4000000 in
theorem eqf_any {w : World} {ao a2 : Option Addr} {cap cp2 : Nat} {L M : List Ent} (h : LR w (.slice ao L.length cap) L) (hu : LR w (.slice a2 M.length cp2) M) :
    Calls Try.prog 44 #[.slice ao L.length cap, .slice a2 M.length cp2, .func (.func 42) #[] #[]] w fun e w' => e = .returned (.bool (decide (absL L = absL M))) ∧ Ext w w' := by
  have hcp : L.length ≤ cap ∧ cap ≤ 9223372036854775807 ∧ M.length ≤ cp2 ∧ cp2 ≤ 9223372036854775807 := by
    obtain ⟨_, _, e9, _, h9, h10, _⟩ := h.shape
    cases e9
    obtain ⟨_, _, e9, _, h11, h12, _⟩ := hu.shape
    cases e9
    unfold maxLen at h10 h12
    exact ⟨h9, by omega, h11, by omega⟩
  obtain ⟨hc1, hc2, hc3, hc4⟩ := hcp
  have HH := hide h
  have HU := hide hu
  clear h hu
  have hent := same1_enters
  by_cases el : L.length = M.length
  case neg =>
    have E := hide (decide_eq_false (fun c : absL L = absL M => el (by rw [← absL_len L, c, absL_len])))
    have d0 : ((L.length : Int) != (M.length : Int)) = true := by simp; omega
    clear el
    go_enter Try.func44, Try.ntmps44
    go_wp2
    go_ret
    rw [unhide E]
    exact ⟨rfl, Ext.refl _⟩
  case pos =>
  have HL := hide el
  rw [← el] at HU hc3 ⊢
  clear el
  go_enter Try.func44, Try.ntmps44
  go_wp2
  go_loopw [17] (fun iv wr => ∃ k : Nat, k ≤ L.length ∧ iv = .int .i64 (k : Int) ∧ Ext w wr ∧ (absL L).take k = (absL M).take k) (fun iv _ => L.length - (intOf iv).toNat)
  case atStart => exact ⟨0, Nat.zero_le _, rfl, Ext.refl _, by simp⟩
  case round =>
    obtain ⟨k, hk, rfl, hx, htk⟩ := hrel
    have HT := hide htk
    by_cases hlt : k < L.length
    · have hkn : (k : Int) < (L.length : Int) := by omega
      have hkM : k < M.length := by rw [← unhide HL]; exact hlt
      obtain ⟨b, off, bo, bcap, ea, eb, c0, c1, c2, hr⟩ := ((unhide HH).ext hx).at k hlt
      obtain ⟨b', off', bo', bcap', ea', eb', c0', c1', c2', hr'⟩ := ((unhide HU).ext hx).at k hkM
      subst ea
      subst ea'
      have HNE : Hid (absE L[k] ≠ absE M[k] → decide (absL L = absL M) = false) := fun hne => decide_eq_false fun c => hne (by
        have h8 := absL_get L k hlt
        have h7 := absL_get M k hkM
        rw [← h8, ← h7]
        congr 1)
      have HEQ : Hid (absE L[k] = absE M[k] → (absL L).take (k + 1) = (absL M).take (k + 1)) := fun heq => by
        rw [List.take_succ_eq_append_getElem (by rw [absL_len]; exact hlt), List.take_succ_eq_append_getElem (by rw [absL_len]; exact hkM), unhide HT, absL_get L k hlt, absL_get M k hkM, heq]
      have eE : absE L[k] = (L[k].1, L[k].2.1, L[k].2.2.2) := rfl
      have eE' : absE M[k] = (M[k].1, M[k].2.1, M[k].2.2.2) := rfl
      rw [eE, eE'] at HNE HEQ
      generalize L[k].1 = W at *
      generalize L[k].2.1 = H at *
      generalize L[k].2.2.2 = xs at *
      generalize M[k].1 = W' at *
      generalize M[k].2.1 = H' at *
      generalize M[k].2.2.2 = ys at *
      have hx2 := ((Ext.refl wr).alloc (.cells #[.int .i64 W, .int .i64 H, .slice bo xs.length bcap] 48)).alloc (.cells #[.int .i64 W', .int .i64 H', .slice bo' ys.length bcap'] 48)
      have HRR := hide (And.intro (hr.ext hx2) (And.intro (hr'.ext hx2) (hx.trans hx2)))
      have hx1 := (Ext.refl wr).alloc (.cells #[.int .i64 W, .int .i64 H, .slice bo xs.length bcap] 48)
      have hcc : ∀ p u, wr.cell? p = some u → (wr.alloc (.cells #[.int .i64 W, .int .i64 H, .slice bo xs.length bcap] 48)).cell? p = some u := fun p u hu => by
        rw [hx1.cell (p := p) (World.block_lt_of_cell? wr _ hu)]
        exact hu
      have k0 := hcc _ _ c0'
      have k1 := hcc _ _ c1'
      have k2 := hcc _ _ c2'
      clear eb eb' hr hr' eE eE' htk hx2 hx hx1 hcc c0' c1' c2'
      go_wp2_with fail
      refine (same1_any W H W' H' bo bo' bcap bcap' xs ys _ (unhide HRR).1 (unhide HRR).2.1).mono ?_
      rintro e w2 ⟨rfl, hx2⟩
      have HX2 := hide ((unhide HRR).2.2.trans hx2)
      clear hx2 HRR
      by_cases d : (W, H, xs) = (W', H', ys)
      case neg =>
        have E := hide (unhide HNE d)
        rw [decide_eq_false d]
        clear HNE HEQ d
        go_wp2
        go_ret
        rw [unhide E]
        exact ⟨rfl, unhide HX2⟩
      case pos =>
        have E := hide (unhide HEQ d)
        rw [decide_eq_true d]
        clear HNE HEQ d
        go_wp2
        go_roundw
        case rel => exact ⟨k + 1, by omega, by go_num, unhide HX2, unhide E⟩
        case measure => simp [intOf]; omega
    · obtain rfl : k = L.length := by omega
      have E := hide (decide_eq_true (show absL L = absL M by
        have h1 := unhide HT
        rw [List.take_of_length_le (by rw [absL_len]; omega), List.take_of_length_le (by rw [absL_len, unhide HL]; omega)] at h1
        exact h1))
      have HX2 := hide hx
      clear htk HT hx
      go_wp2
      go_ret
      rw [unhide E]
      exact ⟨rfl, unhide HX2⟩

set_option maxRecDepth 10000 in
set_option maxHeartbeats 4000000 in
theorem same_any {w : World} {v u : Value} {L M : List Ent} {I J : Img} (h : LR w v L) (hu : LR w u M) (hA : I.L = absL L) (hB : J.L = absL M) :
    Calls Try.prog 21 #[.agg #[.int .i64 I.f, v, .int .i64 I.ws, .int .i64 I.wt, .int .i64 I.mn, .int .i64 I.mg], .agg #[.int .i64 J.f, u, .int .i64 J.ws, .int .i64 J.wt, .int .i64 J.mn, .int .i64 J.mg]] w fun e w' => e = .returned (.bool (sameB I J)) ∧ Ext w w' := by
  obtain ⟨ao, cap, rfl, hao, hlc, hcm, _⟩ := h.shape
  obtain ⟨a2, cp2, rfl, hao2, hlc2, hcm3, _⟩ := hu.shape
  have HX := hide (((Ext.refl w).alloc (.cells #[.int .i64 I.f, .slice ao L.length cap, .int .i64 I.ws, .int .i64 I.wt, .int .i64 I.mn, .int .i64 I.mg] 24)).alloc (.cells #[.int .i64 J.f, .slice a2 M.length cp2, .int .i64 J.ws, .int .i64 J.wt, .int .i64 J.mn, .int .i64 J.mg] 24))
  have HH := hide h
  have HU := hide hu
  have HA := hide hA
  have HB := hide hB
  clear h hu hA hB hao hao2 hcm hcm3
  have fin : ∀ (c : ¬ (I.f = J.f ∧ I.L = J.L ∧ I.ws = J.ws ∧ I.wt = J.wt ∧ I.mn = J.mn ∧ I.mg = J.mg)), sameB I J = false := fun c => same_no c
  have HF := hide fin
  clear fin
  obtain ⟨f1, A1, s1, t1, n1, g1⟩ := I
  obtain ⟨f2, A2, s2, t2, n2, g2⟩ := J
  dsimp only at *
  by_cases e0 : f1 = f2
  case neg =>
    have E := hide (unhide HF fun c => e0 c.1)
    have d0 : (f1 == f2) = false := by simp [e0]
    clear HF e0
    go_enter Try.func21, Try.ntmps21
    go_wp2
    go_ret
    rw [unhide E]
    exact ⟨rfl, unhide HX⟩
  case pos =>
  subst e0
  by_cases e0 : s1 = s2
  case neg =>
    have E := hide (unhide HF fun c => e0 c.2.2.1)
    have d0 : (s1 == s2) = false := by simp [e0]
    clear HF e0
    go_enter Try.func21, Try.ntmps21
    go_wp2
    go_ret
    rw [unhide E]
    exact ⟨rfl, unhide HX⟩
  case pos =>
  subst e0
  by_cases e0 : t1 = t2
  case neg =>
    have E := hide (unhide HF fun c => e0 c.2.2.2.1)
    have d0 : (t1 == t2) = false := by simp [e0]
    clear HF e0
    go_enter Try.func21, Try.ntmps21
    go_wp2
    go_ret
    rw [unhide E]
    exact ⟨rfl, unhide HX⟩
  case pos =>
  subst e0
  by_cases e0 : n1 = n2
  case neg =>
    have E := hide (unhide HF fun c => e0 c.2.2.2.2.1)
    have d0 : (n1 == n2) = false := by simp [e0]
    clear HF e0
    go_enter Try.func21, Try.ntmps21
    go_wp2
    go_ret
    rw [unhide E]
    exact ⟨rfl, unhide HX⟩
  case pos =>
  subst e0
  by_cases e0 : g1 = g2
  case neg =>
    have E := hide (unhide HF fun c => e0 c.2.2.2.2.2)
    have d0 : (g1 == g2) = false := by simp [e0]
    clear HF e0
    go_enter Try.func21, Try.ntmps21
    go_wp2
    go_ret
    rw [unhide E]
    exact ⟨rfl, unhide HX⟩
  case pos =>
  subst e0
  have E : Hid (sameB ⟨f1, A1, s1, t1, n1, g1⟩ ⟨f1, A2, s1, t1, n1, g1⟩ = decide (absL L = absL M)) := by
    show _ = _
    rw [← unhide HA, ← unhide HB]
    simp [sameB]
  go_enter Try.func21, Try.ntmps21
  go_wp2_with fail
  refine (eqf_any ((unhide HH).ext (unhide HX)) ((unhide HU).ext (unhide HX))).mono ?_
  rintro e w2 ⟨rfl, hx2⟩
  have HX2 := hide ((unhide HX).trans hx2)
  clear hx2
  go_wp2
  go_ret
  rw [unhide E]
  exact ⟨rfl, unhide HX2⟩
end Go.Proofs.Ytpjapdifmfpcnaa
