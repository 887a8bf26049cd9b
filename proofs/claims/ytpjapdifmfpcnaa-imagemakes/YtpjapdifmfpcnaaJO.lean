/-
  Images: the walks of New, isChain and Complete. What the dump lacks is left out.
-/
import Derived.Test.YtpjapdifmfpcnaaIX
import Derived.Test.YtpjapdifmfpcnaaIB
namespace Go.Proofs.Ytpjapdifmfpcnaa
open Go.RowKit
set_option linter.unusedVariables false
set_option linter.unusedSimpArgs false

theorem new_any (w : World) :
    Calls Try.prog 23 #[] w fun e w' => e = .returned (.agg #[.int .i64 0, .slice none 0 0, .int .i64 1, .int .i64 1, .int .i64 3, .int .i64 2]) ∧ Ext w w' := by
  have hB : Blk (w.alloc (.cells #[.int .i64 0, .slice none 0 0, .int .i64 1, .int .i64 1, .int .i64 3, .int .i64 2] 24)) w.heap.size #[.int .i64 0, .slice none 0 0, .int .i64 1, .int .i64 1, .int .i64 3, .int .i64 2] 24 := Blk.new _ _ _
  go_enter Try.func23, Try.ntmps23
  go_wp2
  obtain ⟨r0, r1, r2, r3, r4, r5⟩ := hB.six
  refine bodyPost_ret (v := .agg #[.int .i64 0, .slice none 0 0, .int .i64 1, .int .i64 1, .int .i64 3, .int .i64 2]) (by simp [results, Try.results23, go_sem, r0, r1, r2, r3, r4, r5]) rfl ⟨rfl, ?_⟩
  exact (Ext.refl w).alloc _

/-- Has level n the sides that it has to have? -/
def stepB (W H : Int) (L : List Lev) (n : Nat) : Bool := decide ((L.getD n noLev).1 = halfs W n ∧ (L.getD n noLev).2.1 = halfs H n)
/-- All levels that follow from sides. -/
def chainB (L : List Lev) : Bool :=
  decide (lgs (L.getD 0 noLev).1 (L.getD 0 noLev).2.1 + 1 ≤ L.length) && (List.range (lgs (L.getD 0 noLev).1 (L.getD 0 noLev).2.1 + 1)).all (stepB (L.getD 0 noLev).1 (L.getD 0 noLev).2.1 L)
def mipB (I : Img) : Bool := decide (I.mn = 3 ∨ I.mn = 4)
/-- Is an image complete? -/
def cmpB (I : Img) : Bool :=
  okB (sizI I.f) I && hasB I.L 0 && (if (powB (I.L.getD 0 noLev).1 && powB (I.L.getD 0 noLev).2.1) = false then decide (I.ws = 2) && decide (I.wt = 2) && !mipB I else if mipB I = true then chainB I.L else true)
theorem all_no {α : Type} {p : α → Bool} {l : List α} {x : α} (hx : x ∈ l) (h : p x = false) : l.all p = false := by
  rw [List.all_eq_false]
  exact ⟨x, hx, by rw [h]; simp⟩

section
variable {w : World} {v : Value} {L : List Ent} {I : Img}
set_option maxRecDepth 10000 in
set_option maxHeartbeats 2000000 in
theorem isChain_any (h : LR w v L) (hL : 0 < L.length) (hL2 : L.length ≤ 1000) (hW : 1 ≤ L[0].1 ∧ L[0].1 ≤ 64) (hH : 1 ≤ L[0].2.1 ∧ L[0].2.1 ≤ 64) :
    Calls Try.prog 41 #[v] w fun e w' => e = .returned (.bool (chainB (absL L))) ∧ Ext w w' := by
  obtain ⟨ao, cap, rfl, hao, hlc, hcm, _⟩ := h.shape
  have hcm2 : cap ≤ 9223372036854775807 := by unfold maxLen at hcm; omega
  obtain ⟨b, off, bo, bcap, rfl, eb, c0, c1, c2, hr⟩ := h.at 0 hL
  rw [Nat.zero_mul, Nat.add_zero] at c0 c1
  have HH := hide h
  have h0 : (absL L).getD 0 noLev = absE L[0] := absL_getD L 0 hL
  have HC : Hid (chainB (absL L) = (decide (lgs L[0].1 L[0].2.1 + 1 ≤ L.length) && (List.range (lgs L[0].1 L[0].2.1 + 1)).all (stepB L[0].1 L[0].2.1 (absL L)))) := by
    show _ = _
    unfold chainB
    rw [h0, absL_len]
    rfl
  have HCN := hide (show cntI L[0].1 L[0].2.1 = ((lgs L[0].1 L[0].2.1 + 1 : Nat) : Int) by
    unfold cntI
    rw [if_pos ⟨sideB_iff.2 hW, sideB_iff.2 hH⟩]
    simp)
  have hl6 : lgs L[0].1 L[0].2.1 ≤ 6 := lg_le _
  generalize L[0].1 = W at *
  generalize L[0].2.1 = H at *
  have HW := hide hW
  have HHH := hide hH
  clear h hr eb h0 c2 hW hH hao hcm
  have hLz : (0 : Int) < (L.length : Int) := by omega
  go_enter Try.func41, Try.ntmps41
  go_wp2
  go_quiet (fail)
  go_wp2_with fail
  refine (count_any W H _).mono ?_
  rintro e w2 ⟨rfl, rfl⟩
  rw [unhide HCN]
  have hX2 : Ext w (w.drewN nq) := (Ext.refl w).drewN nq
  have HL2 := hide ((unhide HH).ext hX2)
  have HX2 := hide hX2
  generalize w.drewN nq = w2 at HL2 HX2 ⊢
  clear hX2 c0 c1
  by_cases hlt : L.length < lgs W H + 1
  · have hlt2 : (L.length : Int) < ((lgs W H + 1 : Nat) : Int) := by omega
    have E := hide (show chainB (absL L) = false by rw [unhide HC, decide_eq_false (by omega)]; rfl)
    go_wp2
    go_ret
    rw [unhide E]
    exact ⟨rfl, unhide HX2⟩
  · have hlt2 : ¬ (L.length : Int) < ((lgs W H + 1 : Nat) : Int) := by omega
    have hcc : ((lgs W H + 1 : Nat) : Int) ≤ (cap : Int) := by omega
    rw [decide_eq_true (show lgs W H + 1 ≤ L.length by omega)] at HC
    have hnn : (0 : Int) ≤ ((lgs W H + 1 : Nat) : Int) := by omega
    generalize hn : lgs W H + 1 = n at *
    clear hn
    go_wp2
    go_loopw [3, 4, 27] (fun a b i wr => ∃ k : Nat, k ≤ n ∧ a = .int .i64 (halfs W k) ∧ b = .int .i64 (halfs H k) ∧ i = .int .i64 (k : Int) ∧ (∀ m, m < k → stepB W H (absL L) m = true) ∧ Ext w2 wr) (fun _ _ i _ => n - (intOf i).toNat)
    case atStart => exact ⟨0, Nat.zero_le _, rfl, rfl, rfl, fun m hm => by omega, Ext.refl _⟩
    case round =>
      obtain ⟨k, hk, rfl, rfl, rfl, hall, hX⟩ := hrel
      by_cases hkn : k < n
      · have hkL : k < L.length := by omega
        obtain ⟨b2, off2, bo2, bcap2, e2, eb2, c0, c1, c2, hr2⟩ := ((unhide HL2).ext hX).at k hkL
        cases e2
        have hkn2 : (k : Int) < (n : Int) := by omega
        have ha := halfs_side (unhide HW) k
        have hb := halfs_side (unhide HHH) k
        have EA := hide (show half (halfs W k) = halfs W (k + 1) from rfl)
        have EB := hide (show half (halfs H k) = halfs H (k + 1) from rfl)
        have HST := hide (show stepB W H (absL L) k = decide (L[k].1 = halfs W k ∧ L[k].2.1 = halfs H k) by unfold stepB; rw [absL_getD L k hkL]; rfl)
        have HALL := hide hall
        have HX := hide hX
        obtain ⟨a1, a2⟩ := ha
        obtain ⟨b1, b3⟩ := hb
        generalize halfs W k = x at *
        generalize halfs H k = y at *
        generalize L[k].1 = lw at *
        generalize L[k].2.1 = lh at *
        generalize L[k].2.2.2.length = ln at *
        clear hall hX hr2 eb2
        by_cases q1 : lw = x
        · by_cases q2 : lh = y
          · have d1 : (lw != x) = false := by simp [q1]
            have d2 : (lh != y) = false := by simp [q2]
            have G := hide (show stepB W H (absL L) k = true by rw [unhide HST, decide_eq_true ⟨q1, q2⟩])
            clear q1 q2
            go_wp2_with fail
            refine (half_any x _ (by omega) (by omega)).mono ?_
            rintro e w3 ⟨rfl, rfl⟩
            rw [unhide EA]
            go_wp2_with fail
            refine (half_any y _ (by omega) (by omega)).mono ?_
            rintro e w4 ⟨rfl, rfl⟩
            rw [unhide EB]
            go_wp2
            go_roundw
            case rel =>
              refine ⟨k + 1, by omega, rfl, rfl, by go_num, fun m hm => ?_, (unhide HX).alloc _⟩
              by_cases e : m = k
              · rw [e]; exact unhide G
              · exact unhide HALL m (by omega)
            case measure => simp [intOf]; omega
          · have d1 : (lw != x) = false := by simp [q1]
            have d2 : (lh != y) = true := by simp [q2]
            have G := hide (show chainB (absL L) = false by
              rw [unhide HC]
              exact all_no (x := k) (by simp; omega) (by rw [unhide HST, decide_eq_false (fun h => q2 h.2)]))
            clear q1 q2
            go_wp2
            go_ret
            rw [unhide G]
            exact ⟨rfl, (unhide HX2).trans ((unhide HX).alloc _)⟩
        · have d1 : (lw != x) = true := by simp [q1]
          have G := hide (show chainB (absL L) = false by
            rw [unhide HC]
            exact all_no (x := k) (by simp; omega) (by rw [unhide HST, decide_eq_false (fun h => q1 h.1)]))
          clear q1
          go_wp2
          go_ret
          rw [unhide G]
          exact ⟨rfl, (unhide HX2).trans ((unhide HX).alloc _)⟩
      · obtain rfl : k = n := by omega
        have G := hide (show chainB (absL L) = true by
          rw [unhide HC]
          simp only [Bool.true_and, List.all_eq_true, List.mem_range]
          exact hall)
        have HX := hide hX
        have hkn2 : ¬ (k : Int) < (k : Int) := by omega
        clear hall hX
        go_wp2
        go_ret
        rw [unhide G]
        exact ⟨rfl, (unhide HX2).trans (unhide HX)⟩

set_option maxRecDepth 10000 in
set_option maxHeartbeats 4000000 in
theorem complete_any (h : LR w v L) (hL : L.length ≤ 1000) (hA : I.L = absL L) :
    Calls Try.prog 20 #[.agg #[.int .i64 I.f, v, .int .i64 I.ws, .int .i64 I.wt, .int .i64 I.mn, .int .i64 I.mg]] w fun e w' => e = .returned (.bool (cmpB I)) ∧ Ext w w' := by
  obtain ⟨ao, cap, rfl, hao, hlc, hcm, _⟩ := h.shape
  have hcm2 : cap ≤ 9223372036854775807 := by unfold maxLen at hcm; omega
  have HA := hide hA
  have HH := hide h
  have hX1 := (Ext.refl w).alloc (.cells #[.int .i64 I.f, .slice ao L.length cap, .int .i64 I.ws, .int .i64 I.wt, .int .i64 I.mn, .int .i64 I.mg] 24)
  have hB1 := Blk.new w #[.int .i64 I.f, .slice ao L.length cap, .int .i64 I.ws, .int .i64 I.wt, .int .i64 I.mn, .int .i64 I.mg] 24
  have H1 := hide (And.intro hX1 hB1)
  have HE : Hid (cmpB I = (okB (sizI I.f) I && hasB (absL L) 0 && (if (powB ((absL L).getD 0 noLev).1 && powB ((absL L).getD 0 noLev).2.1) = false then decide (I.ws = 2) && decide (I.wt = 2) && !mipB I else if mipB I = true then chainB (absL L) else true))) := by
    show _ = _
    unfold cmpB
    rw [hA]
  clear h hA hao hcm hX1 hB1
  go_enter Try.func20, Try.ntmps20
  go_wp2_with fail
  refine (check_any (I := I) ((unhide HH).ext (unhide H1).1) (by omega) (unhide HA)).mono ?_
  rintro e w3 ⟨rfl, hx3⟩
  have H3 := hide (And.intro ((unhide H1).1.trans hx3) ((unhide H1).2.ext hx3))
  clear H1 hx3
  obtain ⟨q0, q1, q2, q3, q4, q5⟩ := (unhide H3).2.six
  cases hok : okB (sizI I.f) I with
  | false =>
    have c1 := chkE_no (I := I) (by rw [hok]; simp)
    have E := hide (show cmpB I = false by rw [unhide HE, hok]; rfl)
    rw [c1]
    clear c1 hok HE
    go_wp2
    go_ret
    rw [unhide E]
    exact ⟨rfl, (unhide H3).1⟩
  | true =>
    have c1 := chkE_yes (I := I) hok
    rw [hok, Bool.true_and] at HE
    rw [c1]
    have HOK := hide hok
    clear c1 hok
    go_wp2_with fail
    refine (has_any (I := I) ((unhide HH).ext (unhide H3).1) 0).mono ?_
    rintro e w4 ⟨rfl, hx4⟩
    have H4 := hide (And.intro ((unhide H3).1.trans hx4) ((unhide H3).2.ext hx4))
    clear H3 hx4 q0 q1 q2 q3 q4 q5
    cases hh : hasB (absL L) 0 with
    | false =>
      have E := hide (show cmpB I = false by rw [unhide HE, hh]; rfl)
      clear hh HE
      go_wp2
      go_ret
      rw [unhide E]
      exact ⟨rfl, (unhide H4).1⟩
    | true =>
      obtain ⟨q0, q1, q2, q3, q4, q5⟩ := (unhide H4).2.six
      have h00 : 0 < L.length := by
        unfold hasB at hh
        simp [absL_len] at hh
        omega
      have hget : (absL L).getD 0 noLev = absE L[0] := absL_getD L 0 h00
      have hw0 : 0 < L[0].1 := by
        unfold hasB at hh
        simp only [Bool.and_eq_true, decide_eq_true_eq] at hh
        have h2 := hh.2
        rw [show (0 : Int).toNat = 0 from rfl, hget] at h2
        exact h2
      have hgood : (1 ≤ L[0].1 ∧ L[0].1 ≤ 64) ∧ (1 ≤ L[0].2.1 ∧ L[0].2.1 ≤ 64) := by
        have h1 := okB_iff.1 (unhide HOK)
        have h3 := h1.2.2.1 (absE L[0]) (by rw [unhide HA]; unfold absL; exact List.mem_map_of_mem (List.getElem_mem h00))
        unfold lvB at h3
        rw [Bool.or_eq_true] at h3
        rcases h3 with h3 | h3
        · have := (noneB_iff.1 h3).1
          simp [absE] at this
          omega
        · obtain ⟨a, b, _⟩ := goodB_iff.1 h3
          exact ⟨a, b⟩
      rw [hh, Bool.true_and, hget] at HE
      have ee : (absE L[0]).1 = L[0].1 ∧ (absE L[0]).2.1 = L[0].2.1 := ⟨rfl, rfl⟩
      rw [ee.1, ee.2] at HE
      obtain ⟨b, off, bo, bcap, rfl, eb, c0, c1, c2, hr⟩ := ((unhide HH).ext (unhide H4).1).at 0 h00
      rw [Nat.zero_mul, Nat.add_zero] at c0 c1 c2
      have hLz : (0 : Int) < (L.length : Int) := by omega
      have HCH := hide (fun wx (hx : Ext w4 wx) => isChain_any (((unhide HH).ext (unhide H4).1).ext hx) h00 hL hgood.1 hgood.2)
      have HP := hide (fun wx => hasPowers_any L[0].1 L[0].2.1 (.slice bo L[0].2.2.2.length bcap) bo L[0].2.2.2.length bcap rfl hgood.1 hgood.2 wx)
      generalize L[0].1 = W at *
      generalize L[0].2.1 = H at *
      generalize L[0].2.2.2.length = bn at *
      clear hh hget ee hr eb hw0 hgood
      have mcase : (mipB I = true ∧ (I.mn == 3) = true) ∨ (mipB I = true ∧ (I.mn == 3) = false ∧ (I.mn == 4) = true) ∨ (mipB I = false ∧ (I.mn == 3) = false ∧ (I.mn == 4) = false) := by
        unfold mipB
        by_cases m3 : I.mn = 3
        · exact .inl ⟨by simp [m3], by simp [m3]⟩
        · by_cases m4 : I.mn = 4
          · exact .inr (.inl ⟨by simp [m4], by simp [m3], by simp [m4]⟩)
          · exact .inr (.inr ⟨by simp [m3, m4], by simp [m3], by simp [m4]⟩)
      cases hpp : (powB W && powB H) with
      | false =>
        rw [hpp] at HP
        rw [hpp, if_pos rfl] at HE
        clear hpp HCH
        have wcase : ((I.ws == 2) = true ∧ (I.wt == 2) = true ∧ (decide (I.ws = 2) && decide (I.wt = 2)) = true) ∨ ((I.ws == 2) = true ∧ (I.wt == 2) = false ∧ (decide (I.ws = 2) && decide (I.wt = 2)) = false) ∨ ((I.ws == 2) = false ∧ (decide (I.ws = 2) && decide (I.wt = 2)) = false) := by
          by_cases s2 : I.ws = 2
          · by_cases t2 : I.wt = 2
            · exact .inl ⟨by simp [s2], by simp [t2], by simp [s2, t2]⟩
            · exact .inr (.inl ⟨by simp [s2], by simp [t2], by simp [t2]⟩)
          · exact .inr (.inr ⟨by simp [s2], by simp [s2]⟩)
        rcases wcase with ⟨v1, v2, v3⟩ | ⟨v1, v2, v3⟩ | ⟨v1, v3⟩
        all_goals
          rw [v3] at HE
          clear v3
          rcases mcase with ⟨m0, m1⟩ | ⟨m0, m1, m2⟩ | ⟨m0, m1, m2⟩
          all_goals
            rw [m0] at HE
            clear m0
            go_wp2_with fail
            refine (unhide HP _).mono ?_
            rintro e w5 ⟨rfl, hx5⟩
            obtain ⟨q0, q1, q2, q3, q4, q5⟩ := ((unhide H4).2.ext hx5).six
            have HX5 := hide ((unhide H4).1.trans hx5)
            clear hx5
            go_wp2
            go_ret
            rw [unhide HE]
            exact ⟨by simp, unhide HX5⟩
      | true =>
        rw [hpp] at HP
        rw [hpp, if_neg (by simp)] at HE
        clear hpp
        rcases mcase with ⟨m0, m1⟩ | ⟨m0, m1, m2⟩ | ⟨m0, m1, m2⟩
        · rw [m0, if_pos rfl] at HE
          clear m0
          go_wp2_with fail
          refine (unhide HP _).mono ?_
          rintro e w5 ⟨rfl, hx5⟩
          obtain ⟨q0, q1, q2, q3, q4, q5⟩ := ((unhide H4).2.ext hx5).six
          have HCH5 := hide (unhide HCH _ hx5)
          have HX5 := hide ((unhide H4).1.trans hx5)
          clear hx5
          go_wp2_with fail
          refine (unhide HCH5).mono ?_
          rintro e w6 ⟨rfl, hx6⟩
          have HX6 := hide ((unhide HX5).trans hx6)
          clear hx6
          go_wp2
          go_ret
          rw [unhide HE]
          exact ⟨rfl, unhide HX6⟩
        · rw [m0, if_pos rfl] at HE
          clear m0
          go_wp2_with fail
          refine (unhide HP _).mono ?_
          rintro e w5 ⟨rfl, hx5⟩
          obtain ⟨q0, q1, q2, q3, q4, q5⟩ := ((unhide H4).2.ext hx5).six
          have HCH5 := hide (unhide HCH _ hx5)
          have HX5 := hide ((unhide H4).1.trans hx5)
          clear hx5
          go_wp2_with fail
          refine (unhide HCH5).mono ?_
          rintro e w6 ⟨rfl, hx6⟩
          have HX6 := hide ((unhide HX5).trans hx6)
          clear hx6
          go_wp2
          go_ret
          rw [unhide HE]
          exact ⟨rfl, unhide HX6⟩
        · rw [m0, if_neg (by simp)] at HE
          clear m0
          go_wp2_with fail
          refine (unhide HP _).mono ?_
          rintro e w5 ⟨rfl, hx5⟩
          have HX5 := hide ((unhide H4).1.trans hx5)
          clear hx5
          go_wp2
          go_ret
          rw [unhide HE]
          exact ⟨rfl, unhide HX5⟩
end
end Go.Proofs.Ytpjapdifmfpcnaa
