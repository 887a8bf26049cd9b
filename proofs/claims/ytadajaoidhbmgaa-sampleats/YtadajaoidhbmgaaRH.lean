/-
  Images: the document's Complete.
-/
import Derived.Test.YtadajaoidhbmgaaRE
import Derived.Test.YtadajaoidhbmgaaJO
namespace Go.Proofs.Ytadajaoidhbmgaa
open Go.RowKit
set_option linter.unusedVariables false
set_option linter.unusedSimpArgs false

theorem th_has {s : Int} {A : List Lev} (ha : ∀ l ∈ A, lvB s l = true) (i : Int) : thB A i = hasB A i := by
  unfold thB hasB
  by_cases hi : 0 ≤ i ∧ i < A.length
  · have hk : i.toNat < A.length := by omega
    have hm : A.getD i.toNat noLev ∈ A := by
      rw [List.getD_eq_getElem?_getD, List.getElem?_eq_getElem hk, Option.getD_some]
      exact List.getElem_mem hk
    have h3 := ha _ hm
    generalize A.getD i.toNat noLev = l at *
    rw [decide_eq_true hi, Bool.true_and, Bool.true_and]
    cases hn : noneB l with
    | true =>
      unfold noneB at hn
      simp only [decide_eq_true_eq] at hn
      simp [hn.1]
    | false =>
      unfold lvB at h3
      rw [hn, Bool.false_or] at h3
      obtain ⟨a1, _, _⟩ := goodB_iff.1 h3
      simp
      omega
  · rw [decide_eq_false hi, Bool.false_and, Bool.false_and]
def badB (I : Img) (W H : Int) : Bool := !(powB W && powB H) && (!(decide (I.ws = 2) && decide (I.wt = 2)) || mipB I)

set_option maxRecDepth 10000 in
set_option maxHeartbeats 4000000 in
theorem refComplete_any {w : World} {v : Value} {L : List Ent} {I : Img} (h : LR w v L) (hA : I.L = absL L) :
    Calls Try.prog 30 #[.agg #[.int .i64 I.f, v, .int .i64 I.ws, .int .i64 I.wt, .int .i64 I.mn, .int .i64 I.mg]] w fun e w' => e = .returned (.bool (cmpB I)) ∧ Ext w w' := by
  obtain ⟨ao, cap, rfl, hao, hlc, hcm, _⟩ := h.shape
  have hcm2 : cap ≤ 9223372036854775807 := by unfold maxLen at hcm; omega
  have HA := hide hA
  have HH := hide h
  have H1 := hide (And.intro ((Ext.refl w).alloc (.cells #[.int .i64 I.f, .slice ao L.length cap, .int .i64 I.ws, .int .i64 I.wt, .int .i64 I.mn, .int .i64 I.mg] 24)) (Blk.new w #[.int .i64 I.f, .slice ao L.length cap, .int .i64 I.ws, .int .i64 I.wt, .int .i64 I.mn, .int .i64 I.mg] 24))
  have HE : Hid (cmpB I = (okB (sizI I.f) I && hasB (absL L) 0 && (if (powB ((absL L).getD 0 noLev).1 && powB ((absL L).getD 0 noLev).2.1) = false then decide (I.ws = 2) && decide (I.wt = 2) && !mipB I else if mipB I = true then chainB (absL L) else true))) := by
    show _ = _
    unfold cmpB
    rw [hA]
  clear h hA hao hcm
  go_enter Try.func30, Try.ntmps30
  go_wp2_with fail
  generalize w.alloc (.cells #[.int .i64 I.f, .slice ao L.length cap, .int .i64 I.ws, .int .i64 I.wt, .int .i64 I.mn, .int .i64 I.mg] 24) = w1 at H1 ⊢
  refine (refRight_any (I := I) ((unhide HH).ext (unhide H1).1) (unhide HA)).mono ?_
  rintro e w3 ⟨rfl, hx3⟩
  have H3 := hide (And.intro ((unhide H1).1.trans hx3) ((unhide H1).2.ext hx3))
  clear H1 hx3
  obtain ⟨q0, q1, q2, q3, q4, q5⟩ := (unhide H3).2.six
  cases hok : okB (sizI I.f) I with
  | false =>
    have E := hide (show cmpB I = false by rw [unhide HE, hok]; rfl)
    clear hok HE
    go_wp2
    go_ret
    rw [unhide E]
    exact ⟨rfl, (unhide H3).1⟩
  | true =>
    rw [hok, Bool.true_and] at HE
    have HOK := hide hok
    have hlv := (okB_iff.1 hok).2.2.1
    rw [unhide HA] at hlv
    have HTH := hide (fun i => th_has hlv i)
    have HLV := hide hlv
    clear hok hlv
    go_wp2_with fail
    refine (refThere_any (I := I) ((unhide HH).ext (unhide H3).1) 0).mono ?_
    rintro e w4 ⟨rfl, hx4⟩
    rw [unhide HTH]
    have H4 := hide (And.intro ((unhide H3).1.trans hx4) ((unhide H3).2.ext hx4))
    clear H3 hx4 q0 q1 q2 q3 q4 q5
    cases hh : hasB (absL L) 0 with
    | false =>
      have E := hide (show cmpB I = false by rw [unhide HE, hh]; rfl)
      clear hh HE
      go_wp2
      go_ret
      rw [unhide E]
      exact ⟨rfl, (unhide H4).1⟩
    | true =>
      obtain ⟨q0, q1, q2, q3, q4, q5⟩ := (unhide H4).2.six
      have h00 : 0 < L.length := by
        unfold hasB at hh
        simp [absL_len] at hh
        omega
      have hget : (absL L).getD 0 noLev = absE L[0] := absL_getD L 0 h00
      have hgood : (1 ≤ L[0].1 ∧ L[0].1 ≤ 64) ∧ (1 ≤ L[0].2.1 ∧ L[0].2.1 ≤ 64) := by
        have hw0 : 0 < L[0].1 := by
          unfold hasB at hh
          simp only [Bool.and_eq_true, decide_eq_true_eq] at hh
          have h2 := hh.2
          rw [show (0 : Int).toNat = 0 from rfl, hget] at h2
          exact h2
        have h3 := unhide HLV (absE L[0]) (by unfold absL; exact List.mem_map_of_mem (List.getElem_mem h00))
        unfold lvB at h3
        rw [Bool.or_eq_true] at h3
        rcases h3 with h3 | h3
        · have := (noneB_iff.1 h3).1
          simp [absE] at this
          omega
        · obtain ⟨a, b, _⟩ := goodB_iff.1 h3
          exact ⟨a, b⟩
      rw [hh, Bool.true_and, hget] at HE
      have ee : (absE L[0]).1 = L[0].1 ∧ (absE L[0]).2.1 = L[0].2.1 := ⟨rfl, rfl⟩
      rw [ee.1, ee.2] at HE
      have HCB : Hid (chainB (absL L) = (decide (lgs L[0].1 L[0].2.1 + 1 ≤ L.length) && (List.range (lgs L[0].1 L[0].2.1 + 1)).all (stepB L[0].1 L[0].2.1 (absL L)))) := by
        show _ = _
        unfold chainB
        rw [hget, ee.1, ee.2, absL_len]
      have HST0 : Hid (stepB L[0].1 L[0].2.1 (absL L) 0 = true) := by
        show _ = _
        unfold stepB
        rw [hget]
        exact decide_eq_true ⟨rfl, rfl⟩
      obtain ⟨b, off, bo, bcap, e1, eb, c0, c1, c2, hr⟩ := ((unhide HH).ext (unhide H4).1).at 0 h00
      subst e1
      rw [Nat.zero_mul, Nat.add_zero] at c0 c1
      have hLz : (0 : Int) < (L.length : Int) := by omega
      generalize L[0].1 = W at *
      generalize L[0].2.1 = H at *
      obtain ⟨hW, hH⟩ := hgood
      clear hh hget ee hr eb c2
      go_upto_region 3 with fail
      go_quiet (fail)
      have H5 := hide (And.intro ((unhide H4).1.drewN nq) ((unhide H4).2.ext ((Ext.refl w4).drewN nq)))
      generalize w4.drewN nq = w5 at H5 ⊢
      clear q0 q1 q2 q3 q4 q5 c0 c1 H4
      obtain ⟨q0, q1, q2, q3, q4, q5⟩ := (unhide H5).2.six
      have mcase : (mipB I = true ∧ (I.mn == 3) = true) ∨ (mipB I = true ∧ (I.mn == 3) = false ∧ (I.mn == 4) = true) ∨ (mipB I = false ∧ (I.mn == 3) = false ∧ (I.mn == 4) = false) := by
        unfold mipB
        by_cases m3 : I.mn = 3
        · exact .inl ⟨by simp [m3], by simp [m3]⟩
        · by_cases m4 : I.mn = 4
          · exact .inr (.inl ⟨by simp [m4], by simp [m3], by simp [m4]⟩)
          · exact .inr (.inr ⟨by simp [m3, m4], by simp [m3], by simp [m4]⟩)
      go_upto_region 4 with fail
      go_cut [5] (fun mv w6 => mv = .bool (mipB I) ∧ Ext w5 w6)
      case first =>
        rcases mcase with ⟨m0, m1⟩ | ⟨m0, m1, m2⟩ | ⟨m0, m1, m2⟩
        all_goals
          go_wp2
          go_meet
          exact ⟨by rw [m0], Ext.refl _⟩
      case rest =>
      obtain ⟨rfl, hx6⟩ := hcut
      obtain ⟨w6, hw6⟩ : ∃ w6, w6 = wc := ⟨_, rfl⟩
      subst hw6
      have H6 := hide (And.intro ((unhide H5).1.trans hx6) ((unhide H5).2.ext hx6))
      clear mcase q0 q1 q2 q3 q4 q5 H5 hx6
      obtain ⟨q0, q1, q2, q3, q4, q5⟩ := (unhide H6).2.six
      go_upto_region 5 with fail
      go_cut [53] (fun cv w7 => cv = .bool (badB I W H) ∧ Ext w6 w7)
      case first =>
        have wcase : ((I.ws != 2) = false ∧ (I.wt != 2) = false ∧ (decide (I.ws = 2) && decide (I.wt = 2)) = true) ∨ ((I.ws != 2) = false ∧ (I.wt != 2) = true ∧ (decide (I.ws = 2) && decide (I.wt = 2)) = false) ∨ ((I.ws != 2) = true ∧ (decide (I.ws = 2) && decide (I.wt = 2)) = false) := by
          by_cases s2 : I.ws = 2
          · by_cases t2 : I.wt = 2
            · exact .inl ⟨by simp [s2], by simp [t2], by simp [s2, t2]⟩
            · exact .inr (.inl ⟨by simp [s2], by simp [t2], by simp [t2]⟩)
          · exact .inr (.inr ⟨by simp [s2], by simp [s2]⟩)
        have EB : Hid (badB I W H = (!(powB W && powB H) && (!(decide (I.ws = 2) && decide (I.wt = 2)) || mipB I))) := rfl
        go_wp2_with fail
        refine (refPower_any W _ hW.1 hW.2).mono ?_
        rintro e w8 ⟨rfl, rfl⟩
        cases p1 : powB W with
        | false =>
          rw [p1] at EB
          rcases wcase with ⟨v1, v2, v3⟩ | ⟨v1, v2, v3⟩ | ⟨v1, v3⟩
          all_goals
            rw [v3] at EB
            go_wp2
            go_meet
            rw [unhide EB]
            exact ⟨by simp, Ext.refl _⟩
        | true =>
          rw [p1] at EB
          go_wp2_with fail
          refine (refPower_any H _ hH.1 hH.2).mono ?_
          rintro e w8 ⟨rfl, rfl⟩
          cases p2 : powB H with
          | false =>
            rw [p2] at EB
            rcases wcase with ⟨v1, v2, v3⟩ | ⟨v1, v2, v3⟩ | ⟨v1, v3⟩
            all_goals
              rw [v3] at EB
              go_wp2
              go_meet
              rw [unhide EB]
              exact ⟨by simp, Ext.refl _⟩
          | true =>
            rw [p2] at EB
            go_wp2
            go_meet
            rw [unhide EB]
            exact ⟨by simp, Ext.refl _⟩
      case rest =>
      obtain ⟨rfl, hx7⟩ := hcut
      obtain ⟨w7, hw7⟩ : ∃ w7, w7 = wc := ⟨_, rfl⟩
      subst hw7
      have H7 := hide (And.intro ((unhide H6).1.trans hx7) ((unhide H6).2.ext hx7))
      clear q0 q1 q2 q3 q4 q5 H6 hx7
      obtain ⟨q0, q1, q2, q3, q4, q5⟩ := (unhide H7).2.six
      cases hb : badB I W H with
      | true =>
        have E : Hid (cmpB I = false) := by
          show _ = _
          rw [unhide HE]
          unfold badB at hb
          revert hb
          cases powB W <;> cases powB H <;> cases mipB I <;> simp <;> intros <;> first | assumption | omega
        clear hb HE
        go_wp2
        go_ret
        rw [unhide E]
        exact ⟨rfl, (unhide H7).1⟩
      | false =>
      cases hm : mipB I with
      | false =>
        have E : Hid (cmpB I = true) := by
          show _ = _
          rw [unhide HE, hm]
          unfold badB at hb
          rw [hm] at hb
          revert hb
          cases powB W <;> cases powB H <;> simp
        clear hb hm HE
        go_wp2_with fail
        go_loopw [6] (fun iv wr => iv = .int .i64 1 ∧ wr = w7) (fun _ _ => 0)
        case atStart => exact ⟨rfl, rfl⟩
        case round =>
          obtain ⟨rfl, rfl⟩ := hrel
          go_wp2
          go_ret
          rw [unhide E]
          exact ⟨rfl, (unhide H7).1⟩
      | true =>
      have HE2 : Hid (cmpB I = chainB (absL L)) := by
        show _ = _
        rw [unhide HE, hm]
        unfold badB at hb
        rw [hm] at hb
        revert hb
        cases powB W <;> cases powB H <;> simp
      have HCN : Hid (cntI W H = (lgs W H : Int) + 1) := by
        show _ = _
        unfold cntI
        rw [if_pos ⟨sideB_iff.2 hW, sideB_iff.2 hH⟩]
      have hl6 : lgs W H ≤ 6 := lg_le _
      clear hb hm HE
      go_wp2_with fail
      go_loopw [6] (fun iv wr => ∃ k : Nat, k ≤ lgs W H ∧ iv = .int .i64 ((k : Int) + 1) ∧ Ext w7 wr ∧ k < L.length ∧ ∀ i, i ≤ k → stepB W H (absL L) i = true) (fun iv _ => lgs W H + 1 - (intOf iv).toNat)
      case atStart => exact ⟨0, Nat.zero_le _, rfl, Ext.refl _, h00, fun i hi => (show i = 0 from Nat.le_zero.1 hi) ▸ unhide HST0⟩
      case round =>
      clear q0 q1 q2 q3 q4 q5
      obtain ⟨k, hk, rfl, hx, hkL, hall⟩ := hrel
      have HALL := hide hall
      have HX := hide hx
      have hBr := (unhide H7).2.ext hx
      clear hall
      have HEND : Hid (∀ j, j ≤ lgs W H → (∀ i, i ≤ j → stepB W H (absL L) i = true) → j < L.length → j = lgs W H → chainB (absL L) = true) := fun j hj hs hjL hjl => by
        rw [unhide HCB, decide_eq_true (by omega : lgs W H + 1 ≤ L.length), Bool.true_and, List.all_eq_true]
        intro i hi
        exact hs i (by have := List.mem_range.1 hi; omega)
      have HNO : Hid (∀ j, j ≤ lgs W H → (L.length ≤ j ∨ stepB W H (absL L) j = false) → chainB (absL L) = false) := fun j hj hs => by
        rw [unhide HCB]
        rcases hs with hs | hs
        · rw [decide_eq_false (by omega), Bool.false_and]
        · rw [all_no (List.mem_range.2 (by omega : j < lgs W H + 1)) hs, Bool.and_false]
      by_cases hlt : k < lgs W H
      · have hkn : (k : Int) + 1 < (lgs W H : Int) + 1 := by omega
        have hk6 : (k : Int) ≤ 6 := by omega
        go_wp2_with fail
        refine (refCount_any W H _).mono ?_
        rintro e wk ⟨rfl, rfl⟩
        rw [unhide HCN]
        have HTN : Hid (∀ wx, Ext wk wx → Calls Try.prog 45 #[.agg #[.int .i64 I.f, .slice (some ⟨b, off, none⟩) L.length cap, .int .i64 I.ws, .int .i64 I.wt, .int .i64 I.mn, .int .i64 I.mg], .int .i64 ((k : Int) + 1)] wx fun e w' => e = .returned (.bool (hasB (absL L) ((k : Int) + 1))) ∧ Ext wx w') := fun wx h9 => by
          refine (refThere_any (I := I) ((unhide HH).ext ((unhide H7).1.trans ((unhide HX).trans h9))) ((k : Int) + 1)).mono ?_
          rintro e w' ⟨rfl, h8⟩
          exact ⟨by rw [unhide HTH], h8⟩
        obtain ⟨q0, q1, q2, q3, q4, q5⟩ := hBr.six
        have l0 := cell_later q0
        have l1 := cell_later q1
        have l2 := cell_later q2
        have l3 := cell_later q3
        have l4 := cell_later q4
        have l5 := cell_later q5
        have hsome := Later.some wk
        cases hh : hasB (absL L) ((k : Int) + 1) with
        | false =>
          rw [hh] at HTN
          have E : Hid (chainB (absL L) = false) := unhide HNO (k + 1) (by omega) (by
            by_cases h9 : L.length ≤ k + 1
            · exact .inl h9
            · refine .inr ?_
              unfold stepB
              refine decide_eq_false fun c9 => ?_
              have h8 := halfs_side hW (k + 1)
              unfold hasB at hh
              rw [absL_len, decide_eq_true (by omega), Bool.true_and, show ((k : Int) + 1).toNat = k + 1 by omega, c9.1] at hh
              simp at hh
              omega)
          clear hh q0 q1 q2 q3 q4 q5 hBr
          go_upto_region 10 with fail
          refine wp_region_later (by kernel_rfl) (by kernel_rfl) ?_
          repeat (go_big_quiet_step (first | (go_at_call 45; refine calls_later (unhide HTN _ (Later.ext _)))))
          refine wpQuiet_nil ?_
          rintro _ ⟨x, rfl⟩
          have hx9 := hide ((unhide HX).trans x.ext)
          generalize x.w = w9 at hx9 ⊢
          go_wp2
          go_ret
          rw [unhide HE2, unhide E]
          exact ⟨rfl, (unhide H7).1.trans (unhide hx9)⟩
        | true =>
          rw [hh] at HTN
          have hk1 : k + 1 < L.length := by
            unfold hasB at hh
            simp only [Bool.and_eq_true, decide_eq_true_eq] at hh
            have := hh.1.2
            rw [absL_len] at this
            omega
          have hk1' : (k : Int) + 1 < (L.length : Int) := by omega
          obtain ⟨b3, off3, bo3, bcap3, e3, _, c0, c1, _, _⟩ := ((unhide HH).ext ((unhide H7).1.trans (unhide HX))).at (k + 1) hk1
          cases e3
          have n0 := cell_later c0
          have n1 := cell_later c1
          have hgt : (absL L).getD (k + 1) noLev = (L[k + 1].1, L[k + 1].2.1, L[k + 1].2.2.2) := absL_getD L (k + 1) hk1
          have hst : stepB W H (absL L) (k + 1) = decide (L[k + 1].1 = halfs W (k + 1) ∧ L[k + 1].2.1 = halfs H (k + 1)) := by
            unfold stepB
            rw [hgt]
          have mW : (if W / 2 ^ (k + 1) < 1 then 1 else W / 2 ^ (k + 1)) = halfs W (k + 1) := by
            rw [halfs_pow hW.1 (k + 1)]
            split <;> omega
          have mH : (if H / 2 ^ (k + 1) < 1 then 1 else H / 2 ^ (k + 1)) = halfs H (k + 1) := by
            rw [halfs_pow hH.1 (k + 1)]
            split <;> omega
          have HST := hide hst
          generalize L[k + 1].1 = lw at *
          generalize L[k + 1].2.1 = lh at *
          clear hh q0 q1 q2 q3 q4 q5 hBr c0 c1 hgt hst
          by_cases hw1 : lw = halfs W (k + 1)
          case neg =>
            have E : Hid (chainB (absL L) = false) := unhide HNO (k + 1) (by omega) (.inr (by rw [unhide HST]; exact decide_eq_false fun c9 => hw1 c9.1))
            have d1 : (lw != if W / 2 ^ (k + 1) < 1 then 1 else W / 2 ^ (k + 1)) = true := by rw [mW]; simp [hw1]
            clear mW mH hw1 HNO HEND HST
            go_upto_region 10 with fail
            refine wp_region_later (by kernel_rfl) (by kernel_rfl) ?_
            repeat (go_big_quiet_step (first | (go_at_call 45; refine calls_later (unhide HTN _ (Later.ext _)))))
            refine wpQuiet_nil ?_
            rintro _ ⟨x, rfl⟩
            have hx9 := hide ((unhide HX).trans x.ext)
            generalize x.w = w9 at hx9 ⊢
            go_wp2
            all_goals
              go_ret
              rw [unhide HE2, unhide E]
              exact ⟨rfl, (unhide H7).1.trans (unhide hx9)⟩
          case pos =>
          have d1 : (lw != if W / 2 ^ (k + 1) < 1 then 1 else W / 2 ^ (k + 1)) = false := by rw [mW]; simp [hw1]
          by_cases hh1 : lh = halfs H (k + 1)
          case neg =>
            have E : Hid (chainB (absL L) = false) := unhide HNO (k + 1) (by omega) (.inr (by rw [unhide HST]; exact decide_eq_false fun c9 => hh1 c9.2))
            have d2 : (lh != if H / 2 ^ (k + 1) < 1 then 1 else H / 2 ^ (k + 1)) = true := by rw [mH]; simp [hh1]
            clear mW mH hw1 hh1 HNO HEND HST
            go_upto_region 10 with fail
            refine wp_region_later (by kernel_rfl) (by kernel_rfl) ?_
            repeat (go_big_quiet_step (first | (go_at_call 45; refine calls_later (unhide HTN _ (Later.ext _)))))
            refine wpQuiet_nil ?_
            rintro _ ⟨x, rfl⟩
            have hx9 := hide ((unhide HX).trans x.ext)
            generalize x.w = w9 at hx9 ⊢
            go_wp2
            all_goals
              go_ret
              rw [unhide HE2, unhide E]
              exact ⟨rfl, (unhide H7).1.trans (unhide hx9)⟩
          case pos =>
            have d2 : (lh != if H / 2 ^ (k + 1) < 1 then 1 else H / 2 ^ (k + 1)) = false := by rw [mH]; simp [hh1]
            have HS9 : Hid (∀ i, i ≤ k + 1 → stepB W H (absL L) i = true) := fun i hi => by
              by_cases he : i = k + 1
              · subst he
                rw [unhide HST]
                exact decide_eq_true ⟨hw1, hh1⟩
              · exact unhide HALL i (by omega)
            clear mW mH hw1 hh1 HNO HEND HST
            go_upto_region 10 with fail
            refine wp_region_later (by kernel_rfl) (by kernel_rfl) ?_
            repeat (go_big_quiet_step (first | (go_at_call 45; refine calls_later (unhide HTN _ (Later.ext _)))))
            refine wpQuiet_nil ?_
            rintro _ ⟨x, rfl⟩
            have hx9 := hide ((unhide HX).trans x.ext)
            generalize x.w = w9 at hx9 ⊢
            go_wp2
            all_goals
              go_roundw
              case rel => exact ⟨k + 1, by omega, by go_num, unhide hx9, by omega, unhide HS9⟩
              case measure => simp [intOf]; omega
      · obtain rfl : k = lgs W H := by omega
        have hnl : ¬ (lgs W H : Int) + 1 < (lgs W H : Int) + 1 := by omega
        have E : Hid (chainB (absL L) = true) := unhide HEND (lgs W H) (Nat.le_refl _) (unhide HALL) hkL rfl
        clear HNO HEND hBr
        go_wp2_with fail
        refine (refCount_any W H _).mono ?_
        rintro e wk ⟨rfl, rfl⟩
        rw [unhide HCN]
        go_wp2
        go_ret
        rw [unhide HE2, unhide E]
        exact ⟨rfl, (unhide H7).1.trans (unhide HX)⟩
end Go.Proofs.Ytadajaoidhbmgaa
