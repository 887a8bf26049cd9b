/-
  Images: the document's Right.
-/
import Derived.Test.YtpjapdifmfpcnaaRA
import Derived.Test.YtpjapdifmfpcnaaQt
import Derived.BigQuiet
namespace Go.Proofs.Ytpjapdifmfpcnaa
open Go.RowKit
set_option linter.unusedVariables false
set_option linter.unusedSimpArgs false

section
variable {w : World} {v : Value} {L : List Ent} {I : Img}
theorem not_ok {s : Int} {I : Img} (h : ¬ (I.L.length ≤ 7 ∧ (I.L.length = 0 → I.f = 0) ∧ (∀ l ∈ I.L, lvB s l = true) ∧ (0 < I.L.length → s ≠ 0 ∧ hasB I.L ((I.L.length : Int) - 1) = true) ∧ valB 1 I.ws = true ∧ valB 2 I.wt = true ∧ valB 3 I.mn = true ∧ valB 4 I.mg = true)) : okB s I = false := by
  cases h9 : okB s I with
  | false => rfl
  | true => exact absurd (okB_iff.1 h9) h
theorem last_has {s : Int} {A : List Lev} (ha : ∀ l ∈ A, lvB s l = true) (h0 : 0 < A.length) (hn : noneB (A.getD (A.length - 1) noLev) = false) : hasB A ((A.length : Int) - 1) = true := by
  have hk : A.length - 1 < A.length := by omega
  have hm : A.getD (A.length - 1) noLev ∈ A := by
    rw [List.getD_eq_getElem?_getD, List.getElem?_eq_getElem hk, Option.getD_some]
    exact List.getElem_mem hk
  have h3 := ha _ hm
  unfold lvB at h3
  rw [hn, Bool.false_or] at h3
  obtain ⟨a1, _, _⟩ := goodB_iff.1 h3
  unfold hasB
  simp only [Bool.and_eq_true, decide_eq_true_eq]
  rw [show ((A.length : Int) - 1).toNat = A.length - 1 by omega]
  omega
theorem none_last {A : List Lev} (hn : noneB (A.getD (A.length - 1) noLev) = true) (h0 : 0 < A.length) : hasB A ((A.length : Int) - 1) = false := by
  unfold noneB at hn
  simp only [decide_eq_true_eq] at hn
  unfold hasB
  rw [show ((A.length : Int) - 1).toNat = A.length - 1 by omega, hn.1]
  simp

set_option maxRecDepth 10000 in
set_option maxHeartbeats 4000000 in
theorem refRight_any (h : LR w v L) (hA : I.L = absL L) :
    Calls Try.prog 31 #[.agg #[.int .i64 I.f, v, .int .i64 I.ws, .int .i64 I.wt, .int .i64 I.mn, .int .i64 I.mg]] w fun e w' => e = .returned (.bool (okB (sizI I.f) I)) ∧ Ext w w' := by
  obtain ⟨ao, cap, rfl, hao, hlc, hcm, _⟩ := h.shape
  have hcm2 : cap ≤ 9223372036854775807 := by unfold maxLen at hcm; omega
  have hIl : I.L.length = L.length := by rw [hA, absL_len]
  have HIL := hide hIl
  have HA := hide hA
  have HH := hide h
  have HNO := hide (fun c => not_ok (s := sizI I.f) (I := I) c)
  have H1 := hide (And.intro ((Ext.refl w).alloc (.cells #[.int .i64 I.f, .slice ao L.length cap, .int .i64 I.ws, .int .i64 I.wt, .int .i64 I.mn, .int .i64 I.mg] 24)) (Blk.new w #[.int .i64 I.f, .slice ao L.length cap, .int .i64 I.ws, .int .i64 I.wt, .int .i64 I.mn, .int .i64 I.mg] 24))
  clear h hA hao hcm hIl
  by_cases h7 : 7 < L.length
  case pos =>
    have E := hide (unhide HNO fun c => by have := c.1; rw [unhide HIL] at this; omega)
    have d0 : (7 : Int) < (L.length : Int) := by omega
    clear HNO
    go_enter Try.func31, Try.ntmps31
    go_wp2
    go_ret
    rw [unhide E]
    exact ⟨rfl, (unhide H1).1⟩
  case neg =>
  have d7 : ¬ (7 : Int) < (L.length : Int) := by omega
  have hcase : (L.length = 0 ∧ I.f ≠ 0) ∨ (L.length = 0 ∧ I.f = 0) ∨ (0 < L.length ∧ sizI I.f = 0) ∨ (0 < L.length ∧ sizI I.f ≠ 0 ∧ noneB (I.L.getD (I.L.length - 1) noLev) = true) ∨ (0 < L.length ∧ sizI I.f ≠ 0 ∧ noneB (I.L.getD (I.L.length - 1) noLev) = false) := by
    by_cases a : L.length = 0
    · by_cases b : I.f = 0
      · exact .inr (.inl ⟨a, b⟩)
      · exact .inl ⟨a, b⟩
    · have a' : 0 < L.length := by omega
      by_cases b : sizI I.f = 0
      · exact .inr (.inr (.inl ⟨a', b⟩))
      · cases hn : noneB (I.L.getD (I.L.length - 1) noLev) with
        | true => exact .inr (.inr (.inr (.inl ⟨a', b, rfl⟩)))
        | false => exact .inr (.inr (.inr (.inr ⟨a', b, rfl⟩)))
  rcases hcase with ⟨a, b⟩ | hrest
  · have E := hide (unhide HNO fun c => b (c.2.1 (by rw [unhide HIL]; exact a)))
    have d0 : (I.f != 0) = true := by simp [b]
    have hLn : L = [] := List.length_eq_zero_iff.1 a
    subst hLn
    clear HNO
    go_enter Try.func31, Try.ntmps31
    go_wp2
    go_ret
    rw [unhide E]
    exact ⟨rfl, (unhide H1).1⟩
  · -- the cut behind the first refusals
    go_enter Try.func31, Try.ntmps31
    go_upto_region 2 with fail
    generalize w.alloc (.cells #[.int .i64 I.f, .slice ao L.length cap, .int .i64 I.ws, .int .i64 I.wt, .int .i64 I.mn, .int .i64 I.mg] 24) = w1 at H1 ⊢
    obtain ⟨q0, q1, q2, q3, q4, q5⟩ := (unhide H1).2.six
    have hrest2 : (0 < L.length ∧ sizI I.f = 0) ∨ (0 < L.length ∧ sizI I.f ≠ 0 ∧ noneB (I.L.getD (I.L.length - 1) noLev) = true) ∨ ((L.length = 0 ∧ I.f = 0) ∨ (0 < L.length ∧ sizI I.f ≠ 0 ∧ noneB (I.L.getD (I.L.length - 1) noLev) = false)) := by
      rcases hrest with h | h | h | h
      · exact .inr (.inr (.inl h))
      · exact .inl h
      · exact .inr (.inl h)
      · exact .inr (.inr (.inr h))
    clear hrest
    rcases hrest2 with ⟨a, b⟩ | ⟨a, b, c⟩ | hgood
    · have E := hide (unhide HNO fun c => (c.2.2.2.1 (by rw [unhide HIL]; exact a)).1 b)
      have a0 : ¬ (L.length : Int) = 0 := by omega
      have a1 : (0 : Int) < (L.length : Int) := by omega
      have a2 : ((L.length : Int) == 0) = false := by rw [beq_eq_false_iff_ne]; omega
      clear HNO
      go_wp2_with fail
      refine (refSize_any I.f _).mono ?_
      rintro e w2 ⟨rfl, rfl⟩
      rw [b]
      go_wp2
      go_ret
      rw [unhide E]
      exact ⟨rfl, (unhide H1).1⟩
    · -- the last level is none
      have E := hide (unhide HNO fun c9 => by
        have h9 := (c9.2.2.2.1 (by rw [unhide HIL]; exact a)).2
        rw [none_last c (by rw [unhide HIL]; exact a)] at h9
        cases h9)
      obtain ⟨m, hm⟩ : ∃ m, L.length = m + 1 := ⟨L.length - 1, by omega⟩
      have hmL : m < L.length := by omega
      have hc2 : noneB (absE L[m]) = true := by
        rw [unhide HIL, unhide HA, show L.length - 1 = m by omega, absL_getD L m hmL] at c
        exact c
      obtain ⟨b1, off, bo, bcap, e1, eb, c0, c1, c2, hr⟩ := ((unhide HH).ext (unhide H1).1).at m hmL
      subst e1
      have hnn : decide (L[m].1 = 0 ∧ L[m].2.1 = 0 ∧ L[m].2.2.2.length = 0) = true := hc2
      have d3 : (sizI I.f == 0) = false := by rw [beq_eq_false_iff_ne]; exact b
      have HHm := hide hm
      have hlc' : m + 1 ≤ cap := by omega
      rw [hm] at q1 d7 ⊢
      generalize L[m].1 = W at *
      generalize L[m].2.1 = H at *
      generalize L[m].2.2.2.length = bn at *
      clear HNO eb hr hc2 c hm hmL a hlc
      go_wp2_with fail
      refine (refSize_any I.f _).mono ?_
      rintro e w2 ⟨rfl, rfl⟩
      go_wp2_with fail
      refine (refNone_any W H bo bn bcap _).mono ?_
      rintro e w3 ⟨rfl, hx3⟩
      rw [hnn]
      have HX3 := hide ((unhide H1).1.trans hx3)
      clear hx3 hnn
      go_wp2
      go_ret
      rw [unhide E]
      exact ⟨rfl, unhide HX3⟩
    · have HGD := hide hgood
      go_cut [3, 38] (fun nv cv wc => nv = .int .i64 (L.length : Int) ∧ cv = .bool false ∧ Ext w1 wc)
      case first =>
        rcases hgood with ⟨a, b⟩ | ⟨a, b, c⟩
        · have hLn : L = [] := List.length_eq_zero_iff.1 a
          subst hLn
          have d0 : (I.f != 0) = false := by simp [b]
          clear b HGD HNO
          go_wp2
          go_meet
          exact ⟨rfl, rfl, Ext.refl _⟩
        · have hmL : L.length - 1 < L.length := by omega
          have hc2 : noneB (absE L[L.length - 1]) = false := by
            rw [unhide HIL, unhide HA, absL_getD L (L.length - 1) hmL] at c
            exact c
          obtain ⟨b1, off, bo, bcap, e1, eb, c0, c1, c2, hr⟩ := ((unhide HH).ext (unhide H1).1).at (L.length - 1) hmL
          subst e1
          have hnn : decide (L[L.length - 1].1 = 0 ∧ L[L.length - 1].2.1 = 0 ∧ L[L.length - 1].2.2.2.length = 0) = false := hc2
          have d3 : (sizI I.f == 0) = false := by rw [beq_eq_false_iff_ne]; exact b
          have a0 : ¬ (L.length : Int) = 0 := by omega
          have a1 : (0 : Int) < (L.length : Int) := by omega
          have a2 : ((L.length : Int) == 0) = false := by rw [beq_eq_false_iff_ne]; omega
          have a3 : ((L.length : Int) - 1).toNat = L.length - 1 := by omega
          have a4 : (0 : Int) ≤ (L.length : Int) - 1 := by omega
          have a5 : (L.length : Int) - 1 < (L.length : Int) := by omega
          generalize L[L.length - 1].1 = W at *
          generalize L[L.length - 1].2.1 = H at *
          generalize L[L.length - 1].2.2.2.length = bn at *
          clear HNO eb hr hc2 c hmL HGD b
          go_wp2_with fail
          refine (refSize_any I.f _).mono ?_
          rintro e w2 ⟨rfl, rfl⟩
          go_wp2_with fail
          refine (refNone_any W H bo bn bcap _).mono ?_
          rintro e w3 ⟨rfl, hx3⟩
          rw [hnn]
          have HX3 := hide hx3
          clear hx3 hnn
          go_wp2
          go_meet
          exact ⟨rfl, rfl, unhide HX3⟩
      case rest =>
      obtain ⟨rfl, rfl, hxc⟩ := hcut
      rename_i wc
      have hBc := (unhide H1).2.ext hxc
      have HXC := hide hxc
      have HBc := hide hBc
      clear q0 q1 q2 q3 q4 q5 hgood hxc
      have q1 := hBc.six.2.1
      clear hBc
      go_wp2_with fail
      go_loopw [42] (fun iv wr => ∃ k : Nat, k ≤ L.length ∧ iv = .int .i64 (k : Int) ∧ Ext wc wr ∧ ∀ i (h : i < L.length), i < k → lvB (sizI I.f) (absE L[i]) = true) (fun iv _ => L.length - (intOf iv).toNat)
      case atStart => exact ⟨0, Nat.zero_le _, rfl, Ext.refl _, fun i h h2 => by omega⟩
      case round =>
      clear q1
      obtain ⟨k, hk, rfl, hx, hall⟩ := hrel
      have q0 := ((unhide HBc).ext hx).six.1
      have q1 := ((unhide HBc).ext hx).six.2.1
      have HALL := hide hall
      clear hall
      by_cases hlt : k < L.length
      · have hkn : (k : Int) < (L.length : Int) := by omega
        obtain ⟨b, off, bo, bcap, e1, eb, c0, c1, c2, hr⟩ := ((unhide HH).ext ((unhide H1).1.trans ((unhide HXC).trans hx))).at k hlt
        subst e1
        have HNEXT : Hid (lvB (sizI I.f) (absE L[k]) = true → ∀ i (h : i < L.length), i < k + 1 → lvB (sizI I.f) (absE L[i]) = true) := fun h9 i hi h2 => by
          by_cases he : i = k
          · subst he; exact h9
          · exact unhide HALL i hi (by omega)
        have HBAD : Hid (lvB (sizI I.f) (absE L[k]) = false → okB (sizI I.f) I = false) := fun h9 => unhide HNO fun c9 => by
          have h8 := c9.2.2.1 (absE L[k]) (by rw [unhide HA]; exact List.mem_map.2 ⟨_, List.getElem_mem hlt, rfl⟩)
          rw [h9] at h8
          cases h8
        have eE : absE L[k] = (L[k].1, L[k].2.1, L[k].2.2.2) := rfl
        have hlv : lvB (sizI I.f) (absE L[k]) = (decide (L[k].1 = 0 ∧ L[k].2.1 = 0 ∧ L[k].2.2.2.length = 0) || decide ((1 ≤ L[k].1 ∧ L[k].1 ≤ 64) ∧ (1 ≤ L[k].2.1 ∧ L[k].2.1 ≤ 64) ∧ (L[k].2.2.2.length : Int) = L[k].1 * L[k].2.1 * sizI I.f)) := rfl
        rw [hlv] at HNEXT HBAD
        generalize L[k].1 = W at *
        generalize L[k].2.1 = H at *
        generalize L[k].2.2.2.length = bn at *
        have hx8 := (Ext.refl wr).alloc (.cells #[.int .i64 W, .int .i64 H, .slice bo bn bcap] 48)
        have HX8 := hide (hx.trans hx8)
        have hsome := Later.some (wr.alloc (.cells #[.int .i64 W, .int .i64 H, .slice bo bn bcap] 48))
        have hbl := Blk.new wr #[.int .i64 W, .int .i64 H, .slice bo bn bcap] 48
        have l0 := cell_later hbl.three.1
        have l1 := cell_later hbl.three.2.1
        have l2 := cell_later hbl.three.2.2
        have l3 := cell_later ((((unhide HBc).ext hx).ext hx8).six.1)
        have HCN : Hid (∀ wx, Calls Try.prog 52 #[.agg #[.int .i64 W, .int .i64 H, .slice bo bn bcap]] wx fun e w' => e = .returned (.bool (decide (W = 0 ∧ H = 0 ∧ bn = 0))) ∧ Ext wx w') := fun wx => refNone_any W H bo bn bcap wx
        have HCW : Hid (∀ wx, Calls Try.prog 53 #[.int .i64 W] wx fun e w' => e = .returned (.bool (sideB W)) ∧ Ext wx w') := fun wx => (refSide_any W wx).mono fun e w' h => ⟨h.1, by rw [h.2]; exact Ext.refl _⟩
        have HCH : Hid (∀ wx, Calls Try.prog 53 #[.int .i64 H] wx fun e w' => e = .returned (.bool (sideB H)) ∧ Ext wx w') := fun wx => (refSide_any H wx).mono fun e w' h => ⟨h.1, by rw [h.2]; exact Ext.refl _⟩
        have HCS : Hid (∀ wx, Calls Try.prog 29 #[.int .i64 I.f] wx fun e w' => e = .returned (.int .i64 (sizI I.f)) ∧ Ext wx w') := fun wx => (refSize_any I.f wx).mono fun e w' h => ⟨h.1, by rw [h.2]; exact Ext.refl _⟩
        have hsb := siz_bd I.f
        obtain ⟨s, hsz⟩ : ∃ s, sizI I.f = s := ⟨_, rfl⟩
        have HSZ := hide hsz
        rw [hsz] at HNEXT HBAD HCS hsb
        clear hsz
        obtain ⟨hs0, hs4⟩ := hsb
        clear eb hr eE hlv hx8 hbl
        by_cases hn : W = 0 ∧ H = 0 ∧ bn = 0
        · have E := hide (unhide HNEXT (by rw [decide_eq_true hn]; rfl))
          rw [decide_eq_true hn] at HCN
          clear HNEXT HBAD hn
          go_upto_region 7 with fail
          refine wp_region_later (by kernel_rfl) (by kernel_rfl) ?_
          repeat (go_big_quiet_step (first
            | (go_at_call 52; refine calls_later (unhide HCN _))
            | (go_at_call_of 53 (Value.int IntKind.i64 W); refine calls_later (unhide HCW _))
            | (go_at_call_of 53 (Value.int IntKind.i64 H); refine calls_later (unhide HCH _))
            | (go_at_call 29; refine calls_later (unhide HCS _))))
          refine wpQuiet_nil ?_
          rintro _ ⟨x, rfl⟩
          have hx9 := hide ((unhide HX8).trans x.ext)
          generalize x.w = w9 at hx9 ⊢
          go_wp2
          go_roundw
          case rel => exact ⟨k + 1, by omega, by go_num, unhide hx9, by have h9 := unhide E; rw [← unhide HSZ] at h9; exact h9⟩
          case measure => simp [intOf]; omega
        · rw [decide_eq_false hn] at HCN HNEXT HBAD
          clear hn
          by_cases hW : 1 ≤ W ∧ W ≤ 64
          case neg =>
            have hWb : sideB W = false := decide_eq_false hW
            rw [hWb] at HCW
            have E := hide (unhide HBAD (by rw [Bool.false_or]; exact decide_eq_false fun c9 => hW c9.1))
            clear HNEXT HBAD
            go_upto_region 7 with fail
            refine wp_region_later (by kernel_rfl) (by kernel_rfl) ?_
            repeat (go_big_quiet_step (first
              | (go_at_call 52; refine calls_later (unhide HCN _))
              | (go_at_call_of 53 (Value.int IntKind.i64 W); refine calls_later (unhide HCW _))
              | (go_at_call_of 53 (Value.int IntKind.i64 H); refine calls_later (unhide HCH _))
              | (go_at_call 29; refine calls_later (unhide HCS _))))
            refine wpQuiet_nil ?_
            rintro _ ⟨x, rfl⟩
            have hx9 := hide ((unhide HX8).trans x.ext)
            generalize x.w = w9 at hx9 ⊢
            go_wp2
            go_ret
            rw [unhide HSZ, unhide E]
            exact ⟨rfl, (unhide H1).1.trans ((unhide HXC).trans (unhide hx9))⟩
          case pos =>
          rw [show sideB W = true from decide_eq_true hW] at HCW
          by_cases hH : 1 ≤ H ∧ H ≤ 64
          case neg =>
            have hWb : sideB H = false := decide_eq_false hH
            rw [hWb] at HCH
            have E := hide (unhide HBAD (by rw [Bool.false_or]; exact decide_eq_false fun c9 => hH c9.2.1))
            clear HNEXT HBAD
            go_upto_region 7 with fail
            refine wp_region_later (by kernel_rfl) (by kernel_rfl) ?_
            repeat (go_big_quiet_step (first
              | (go_at_call 52; refine calls_later (unhide HCN _))
              | (go_at_call_of 53 (Value.int IntKind.i64 W); refine calls_later (unhide HCW _))
              | (go_at_call_of 53 (Value.int IntKind.i64 H); refine calls_later (unhide HCH _))
              | (go_at_call 29; refine calls_later (unhide HCS _))))
            refine wpQuiet_nil ?_
            rintro _ ⟨x, rfl⟩
            have hx9 := hide ((unhide HX8).trans x.ext)
            generalize x.w = w9 at hx9 ⊢
            go_wp2
            go_ret
            rw [unhide HSZ, unhide E]
            exact ⟨rfl, (unhide H1).1.trans ((unhide HXC).trans (unhide hx9))⟩
          case pos =>
          rw [show sideB H = true from decide_eq_true hH] at HCH
          have m0 : 0 ≤ W * H := Int.mul_nonneg (by omega) (by omega)
          have m1 : W * H ≤ 64 * 64 := Int.mul_le_mul hW.2 hH.2 (by omega) (by omega)
          have m2 : 0 ≤ W * H * s := Int.mul_nonneg m0 hs0
          have m3 : W * H * s ≤ 4096 * 4 := Int.mul_le_mul m1 hs4 hs0 (by omega)
          have w1' : IntKind.i64.wrap (W * H) = W * H := by simp [IntKind.wrap, IntKind.bits, IntKind.signed]; omega
          have w2' : IntKind.i64.wrap (W * H * s) = W * H * s := by simp [IntKind.wrap, IntKind.bits, IntKind.signed]; omega
          by_cases hB : (bn : Int) = W * H * s
          case neg =>
            have E := hide (unhide HBAD (by rw [Bool.false_or]; exact decide_eq_false fun c9 => hB c9.2.2))
            have d9 : ((bn : Int) != W * H * s) = true := by simp [hB]
            clear HNEXT HBAD hB
            go_upto_region 7 with fail
            refine wp_region_later (by kernel_rfl) (by kernel_rfl) ?_
            repeat (go_big_quiet_step (first
              | (go_at_call 52; refine calls_later (unhide HCN _))
              | (go_at_call_of 53 (Value.int IntKind.i64 W); refine calls_later (unhide HCW _))
              | (go_at_call_of 53 (Value.int IntKind.i64 H); refine calls_later (unhide HCH _))
              | (go_at_call 29; refine calls_later (unhide HCS _))))
            refine wpQuiet_nil ?_
            rintro _ ⟨x, rfl⟩
            have hx9 := hide ((unhide HX8).trans x.ext)
            generalize x.w = w9 at hx9 ⊢
            go_wp2
            go_ret
            rw [unhide HSZ, unhide E]
            exact ⟨rfl, (unhide H1).1.trans ((unhide HXC).trans (unhide hx9))⟩
          case pos =>
          have E := hide (unhide HNEXT (by rw [Bool.false_or]; exact decide_eq_true ⟨hW, hH, hB⟩))
          have d9 : ((bn : Int) != W * H * s) = false := by simp [hB]
          clear HNEXT HBAD hB
          go_upto_region 7 with fail
          refine wp_region_later (by kernel_rfl) (by kernel_rfl) ?_
          repeat (go_big_quiet_step (first
            | (go_at_call 52; refine calls_later (unhide HCN _))
            | (go_at_call_of 53 (Value.int IntKind.i64 W); refine calls_later (unhide HCW _))
            | (go_at_call_of 53 (Value.int IntKind.i64 H); refine calls_later (unhide HCH _))
            | (go_at_call 29; refine calls_later (unhide HCS _))))
          refine wpQuiet_nil ?_
          rintro _ ⟨x, rfl⟩
          have hx9 := hide ((unhide HX8).trans x.ext)
          generalize x.w = w9 at hx9 ⊢
          go_wp2
          go_roundw
          case rel => exact ⟨k + 1, by omega, by go_num, unhide hx9, by have h9 := unhide E; rw [← unhide HSZ] at h9; exact h9⟩
          case measure => simp [intOf]; omega
      · obtain rfl : k = L.length := by omega
        have hnl : ¬ (L.length : Int) < (L.length : Int) := by omega
        have hlv : ∀ l ∈ I.L, lvB (sizI I.f) l = true := fun l hl => by
          rw [unhide HA] at hl
          obtain ⟨p, hp, rfl⟩ := List.mem_map.1 hl
          obtain ⟨i, hi, rfl⟩ := List.getElem_of_mem hp
          exact unhide HALL i hi hi
        have hokb : okB (sizI I.f) I = (valB 1 I.ws && valB 2 I.wt && valB 3 I.mn && valB 4 I.mg) := by
          have hl7 : I.L.length ≤ 7 := by rw [unhide HIL]; omega
          have h1 : (I.L.length = 0 → I.f = 0) := fun h9 => by
            rcases unhide HGD with ⟨a, b⟩ | ⟨a, b, c⟩
            · exact b
            · rw [unhide HIL] at h9; omega
          have h2 : (0 < I.L.length → sizI I.f ≠ 0 ∧ hasB I.L ((I.L.length : Int) - 1) = true) := fun h9 => by
            rcases unhide HGD with ⟨a, b⟩ | ⟨a, b, c⟩
            · rw [unhide HIL] at h9; omega
            · exact ⟨b, last_has hlv h9 c⟩
          unfold okB
          rw [decide_eq_true hl7, decide_eq_true h1, decide_eq_true h2, List.all_eq_true.2 hlv]
          simp
        have HOK := hide hokb
        obtain ⟨p0, p1, p2, p3, p4, p5⟩ := ((unhide HBc).ext hx).six
        have HXE := hide ((unhide H1).1.trans ((unhide HXC).trans hx))
        clear hlv hokb hx q0 q1 HALL HNO
        go_wp2_with fail
        refine (refValues_any 1 I.ws _).mono ?_
        rintro e w2 ⟨rfl, rfl⟩
        cases v1 : valB 1 I.ws with
        | false =>
          rw [v1] at HOK
          go_wp2
          go_ret
          rw [unhide HOK]
          exact ⟨rfl, unhide HXE⟩
        | true =>
        rw [v1] at HOK
        go_wp2_with fail
        refine (refValues_any 2 I.wt _).mono ?_
        rintro e w2 ⟨rfl, rfl⟩
        cases v2 : valB 2 I.wt with
        | false =>
          rw [v2] at HOK
          go_wp2
          go_ret
          rw [unhide HOK]
          exact ⟨rfl, unhide HXE⟩
        | true =>
        rw [v2] at HOK
        go_wp2_with fail
        refine (refValues_any 3 I.mn _).mono ?_
        rintro e w2 ⟨rfl, rfl⟩
        cases v3 : valB 3 I.mn with
        | false =>
          rw [v3] at HOK
          go_wp2
          go_ret
          rw [unhide HOK]
          exact ⟨rfl, unhide HXE⟩
        | true =>
        rw [v3] at HOK
        go_wp2_with fail
        refine (refValues_any 4 I.mg _).mono ?_
        rintro e w2 ⟨rfl, rfl⟩
        cases v4 : valB 4 I.mg with
        | false =>
          rw [v4] at HOK
          go_wp2
          go_ret
          rw [unhide HOK]
          exact ⟨rfl, unhide HXE⟩
        | true =>
          rw [v4] at HOK
          go_wp2
          go_ret
          rw [unhide HOK]
          exact ⟨rfl, unhide HXE⟩
end
end Go.Proofs.Ytpjapdifmfpcnaa
