/- Several texts in one. -/
import Derived.Test.YtglfhmlcmffoaaaGreatIUJ
import Derived.Test.YtglfhmlcmffoaaaGreatPGJ
import Derived.Deep.QuietTactic
import Derived.Deep.RegionHeld3
import Derived.Deep.DeepCutAuto
/-
  Images: the walks of New, isChain and Complete. What the dump lacks is left out.
-/
namespace Go.Proofs.YtglfhmlcmffoaaaGreat
open Go.RowKit
set_option linter.unusedVariables false
set_option linter.unusedSimpArgs false

/-- Has level n the sides that it has to have? -/
def stepB (W H : Int) (L : List Lev) (n : Nat) : Bool := decide ((L.getD n noLev).1 = halfs W n ∧ (L.getD n noLev).2.1 = halfs H n)
/-- All levels that follow from sides. -/
def chainB (L : List Lev) : Bool :=
  decide (lgs (L.getD 0 noLev).1 (L.getD 0 noLev).2.1 + 1 ≤ L.length) && (List.range (lgs (L.getD 0 noLev).1 (L.getD 0 noLev).2.1 + 1)).all (stepB (L.getD 0 noLev).1 (L.getD 0 noLev).2.1 L)
def mipB (I : Img) : Bool := decide (I.mn = 3 ∨ I.mn = 4)
/-- Is an image complete? -/
def cmpB (I : Img) : Bool :=
  okB (sizI I.f) I && hasB I.L 0 && (if (powB (I.L.getD 0 noLev).1 && powB (I.L.getD 0 noLev).2.1) = false then decide (I.ws = 2) && decide (I.wt = 2) && !mipB I else if mipB I = true then chainB I.L else true)
theorem all_no {α : Type} {p : α → Bool} {l : List α} {x : α} (hx : x ∈ l) (h : p x = false) : l.all p = false := by
  rw [List.all_eq_false]
  exact ⟨x, hx, by rw [h]; simp⟩

section
variable {w : World} {v : Value} {L : List Ent} {I : Img}
set_option maxRecDepth 10000 in
set_option maxHeartbeats 2000000 in
theorem isChain_any (h : LR w v L) (hL : 0 < L.length) (hL2 : L.length ≤ 1000) (hW : 1 ≤ L[0].1 ∧ L[0].1 ≤ 64) (hH : 1 ≤ L[0].2.1 ∧ L[0].2.1 ≤ 64) :
    Calls Tryz.prog 168 #[v] w fun e w' => e = .returned (.bool (chainB (absL L))) ∧ Ext w w' := by
  obtain ⟨ao, cap, rfl, hao, hlc, hcm, _⟩ := h.shape
  have hcm2 : cap ≤ 9223372036854775807 := by unfold maxLen at hcm; omega
  obtain ⟨b, off, bo, bcap, rfl, eb, c0, c1, c2, hr⟩ := h.at 0 hL
  rw [Nat.zero_mul, Nat.add_zero] at c0 c1
  have HH := hide h
  have h0 : (absL L).getD 0 noLev = absE L[0] := absL_getD L 0 hL
  have HC : Hid (chainB (absL L) = (decide (lgs L[0].1 L[0].2.1 + 1 ≤ L.length) && (List.range (lgs L[0].1 L[0].2.1 + 1)).all (stepB L[0].1 L[0].2.1 (absL L)))) := by
    show _ = _
    unfold chainB
    rw [h0, absL_len]
    rfl
  have HCN := hide (show cntI L[0].1 L[0].2.1 = ((lgs L[0].1 L[0].2.1 + 1 : Nat) : Int) by
    unfold cntI
    rw [if_pos ⟨sideB_iff.2 hW, sideB_iff.2 hH⟩]
    simp)
  have hl6 : lgs L[0].1 L[0].2.1 ≤ 6 := lg_le _
  generalize L[0].1 = W at *
  generalize L[0].2.1 = H at *
  have HW := hide hW
  have HHH := hide hH
  clear h hr eb h0 c2 hW hH hao hcm
  have hLz : (0 : Int) < (L.length : Int) := by omega
  go_enter Tryz.func168, Tryz.ntmps168
  go_wp2
  go_quiet (fail)
  go_wp2_with fail
  refine (count_any W H _).mono ?_
  rintro e w2 ⟨rfl, rfl⟩
  rw [unhide HCN]
  have hX2 : Ext w (w.drewN nq) := (Ext.refl w).drewN nq
  have HL2 := hide ((unhide HH).ext hX2)
  have HX2 := hide hX2
  generalize w.drewN nq = w2 at HL2 HX2 ⊢
  clear hX2 c0 c1
  by_cases hlt : L.length < lgs W H + 1
  · have hlt2 : (L.length : Int) < ((lgs W H + 1 : Nat) : Int) := by omega
    have E := hide (show chainB (absL L) = false by rw [unhide HC, decide_eq_false (by omega)]; rfl)
    go_wp2
    go_ret
    rw [unhide E]
    exact ⟨rfl, unhide HX2⟩
  · have hlt2 : ¬ (L.length : Int) < ((lgs W H + 1 : Nat) : Int) := by omega
    have hcc : ((lgs W H + 1 : Nat) : Int) ≤ (cap : Int) := by omega
    rw [decide_eq_true (show lgs W H + 1 ≤ L.length by omega)] at HC
    have hnn : (0 : Int) ≤ ((lgs W H + 1 : Nat) : Int) := by omega
    generalize hn : lgs W H + 1 = n at *
    clear hn
    go_wp2
    go_loopw [3, 4, 27] (fun a b i wr => ∃ k : Nat, k ≤ n ∧ a = .int .i64 (halfs W k) ∧ b = .int .i64 (halfs H k) ∧ i = .int .i64 (k : Int) ∧ (∀ m, m < k → stepB W H (absL L) m = true) ∧ Ext w2 wr) (fun _ _ i _ => n - (intOf i).toNat)
    case atStart => exact ⟨0, Nat.zero_le _, rfl, rfl, rfl, fun m hm => by omega, Ext.refl _⟩
    case round =>
      obtain ⟨k, hk, rfl, rfl, rfl, hall, hX⟩ := hrel
      by_cases hkn : k < n
      · have hkL : k < L.length := by omega
        obtain ⟨b2, off2, bo2, bcap2, e2, eb2, c0, c1, c2, hr2⟩ := ((unhide HL2).ext hX).at k hkL
        cases e2
        have hkn2 : (k : Int) < (n : Int) := by omega
        have ha := halfs_side (unhide HW) k
        have hb := halfs_side (unhide HHH) k
        have EA := hide (show half (halfs W k) = halfs W (k + 1) from rfl)
        have EB := hide (show half (halfs H k) = halfs H (k + 1) from rfl)
        have HST := hide (show stepB W H (absL L) k = decide (L[k].1 = halfs W k ∧ L[k].2.1 = halfs H k) by unfold stepB; rw [absL_getD L k hkL]; rfl)
        have HALL := hide hall
        have HX := hide hX
        obtain ⟨a1, a2⟩ := ha
        obtain ⟨b1, b3⟩ := hb
        generalize halfs W k = x at *
        generalize halfs H k = y at *
        generalize L[k].1 = lw at *
        generalize L[k].2.1 = lh at *
        generalize L[k].2.2.2.length = ln at *
        clear hall hX hr2 eb2
        by_cases q1 : lw = x
        · by_cases q2 : lh = y
          · have d1 : (lw != x) = false := by simp [q1]
            have d2 : (lh != y) = false := by simp [q2]
            have G := hide (show stepB W H (absL L) k = true by rw [unhide HST, decide_eq_true ⟨q1, q2⟩])
            clear q1 q2
            go_wp2_with fail
            refine (half_any x _ (by omega) (by omega)).mono ?_
            rintro e w3 ⟨rfl, rfl⟩
            rw [unhide EA]
            go_wp2_with fail
            refine (half_any y _ (by omega) (by omega)).mono ?_
            rintro e w4 ⟨rfl, rfl⟩
            rw [unhide EB]
            go_wp2
            go_roundw
            case rel =>
              refine ⟨k + 1, by omega, rfl, rfl, by go_num, fun m hm => ?_, (unhide HX).alloc _⟩
              by_cases e : m = k
              · rw [e]; exact unhide G
              · exact unhide HALL m (by omega)
            case measure => simp [intOf]; omega
          · have d1 : (lw != x) = false := by simp [q1]
            have d2 : (lh != y) = true := by simp [q2]
            have G := hide (show chainB (absL L) = false by
              rw [unhide HC]
              exact all_no (x := k) (by simp; omega) (by rw [unhide HST, decide_eq_false (fun h => q2 h.2)]))
            clear q1 q2
            go_wp2
            go_ret
            rw [unhide G]
            exact ⟨rfl, (unhide HX2).trans ((unhide HX).alloc _)⟩
        · have d1 : (lw != x) = true := by simp [q1]
          have G := hide (show chainB (absL L) = false by
            rw [unhide HC]
            exact all_no (x := k) (by simp; omega) (by rw [unhide HST, decide_eq_false (fun h => q1 h.1)]))
          clear q1
          go_wp2
          go_ret
          rw [unhide G]
          exact ⟨rfl, (unhide HX2).trans ((unhide HX).alloc _)⟩
      · obtain rfl : k = n := by omega
        have G := hide (show chainB (absL L) = true by
          rw [unhide HC]
          simp only [Bool.true_and, List.all_eq_true, List.mem_range]
          exact hall)
        have HX := hide hX
        have hkn2 : ¬ (k : Int) < (k : Int) := by omega
        clear hall hX
        go_wp2
        go_ret
        rw [unhide G]
        exact ⟨rfl, (unhide HX2).trans (unhide HX)⟩

set_option maxRecDepth 10000 in
set_option maxHeartbeats 4000000 in
theorem complete_any (h : LR w v L) (hL : L.length ≤ 1000) (hA : I.L = absL L) :
    Calls Tryz.prog 120 #[.agg #[.int .i64 I.f, v, .int .i64 I.ws, .int .i64 I.wt, .int .i64 I.mn, .int .i64 I.mg]] w fun e w' => e = .returned (.bool (cmpB I)) ∧ Ext w w' := by
  obtain ⟨ao, cap, rfl, hao, hlc, hcm, _⟩ := h.shape
  have hcm2 : cap ≤ 9223372036854775807 := by unfold maxLen at hcm; omega
  have HA := hide hA
  have HH := hide h
  have hX1 := (Ext.refl w).alloc (.cells #[.int .i64 I.f, .slice ao L.length cap, .int .i64 I.ws, .int .i64 I.wt, .int .i64 I.mn, .int .i64 I.mg] 112)
  have hB1 := Blk.new w #[.int .i64 I.f, .slice ao L.length cap, .int .i64 I.ws, .int .i64 I.wt, .int .i64 I.mn, .int .i64 I.mg] 112
  have H1 := hide (And.intro hX1 hB1)
  have HE : Hid (cmpB I = (okB (sizI I.f) I && hasB (absL L) 0 && (if (powB ((absL L).getD 0 noLev).1 && powB ((absL L).getD 0 noLev).2.1) = false then decide (I.ws = 2) && decide (I.wt = 2) && !mipB I else if mipB I = true then chainB (absL L) else true))) := by
    show _ = _
    unfold cmpB
    rw [hA]
  clear h hA hao hcm hX1 hB1
  go_enter Tryz.func120, Tryz.ntmps120
  go_wp2_with fail
  refine (check_any (I := I) ((unhide HH).ext (unhide H1).1) (by omega) (unhide HA)).mono ?_
  rintro e w3 ⟨rfl, hx3⟩
  have H3 := hide (And.intro ((unhide H1).1.trans hx3) ((unhide H1).2.ext hx3))
  clear H1 hx3
  obtain ⟨q0, q1, q2, q3, q4, q5⟩ := (unhide H3).2.six
  cases hok : okB (sizI I.f) I with
  | false =>
    have c1 := chkE_no (I := I) (by rw [hok]; simp)
    have E := hide (show cmpB I = false by rw [unhide HE, hok]; rfl)
    rw [c1]
    clear c1 hok HE
    go_wp2
    go_ret
    rw [unhide E]
    exact ⟨rfl, (unhide H3).1⟩
  | true =>
    have c1 := chkE_yes (I := I) hok
    rw [hok, Bool.true_and] at HE
    rw [c1]
    have HOK := hide hok
    clear c1 hok
    go_wp2_with fail
    refine (has_any (I := I) ((unhide HH).ext (unhide H3).1) 0).mono ?_
    rintro e w4 ⟨rfl, hx4⟩
    have H4 := hide (And.intro ((unhide H3).1.trans hx4) ((unhide H3).2.ext hx4))
    clear H3 hx4 q0 q1 q2 q3 q4 q5
    cases hh : hasB (absL L) 0 with
    | false =>
      have E := hide (show cmpB I = false by rw [unhide HE, hh]; rfl)
      clear hh HE
      go_wp2
      go_ret
      rw [unhide E]
      exact ⟨rfl, (unhide H4).1⟩
    | true =>
      obtain ⟨q0, q1, q2, q3, q4, q5⟩ := (unhide H4).2.six
      have h00 : 0 < L.length := by
        unfold hasB at hh
        simp [absL_len] at hh
        omega
      have hget : (absL L).getD 0 noLev = absE L[0] := absL_getD L 0 h00
      have hw0 : 0 < L[0].1 := by
        unfold hasB at hh
        simp only [Bool.and_eq_true, decide_eq_true_eq] at hh
        have h2 := hh.2
        rw [show (0 : Int).toNat = 0 from rfl, hget] at h2
        exact h2
      have hgood : (1 ≤ L[0].1 ∧ L[0].1 ≤ 64) ∧ (1 ≤ L[0].2.1 ∧ L[0].2.1 ≤ 64) := by
        have h1 := okB_iff.1 (unhide HOK)
        have h3 := h1.2.2.1 (absE L[0]) (by rw [unhide HA]; unfold absL; exact List.mem_map_of_mem (List.getElem_mem h00))
        unfold lvB at h3
        rw [Bool.or_eq_true] at h3
        rcases h3 with h3 | h3
        · have := (noneB_iff.1 h3).1
          simp [absE] at this
          omega
        · obtain ⟨a, b, _⟩ := goodB_iff.1 h3
          exact ⟨a, b⟩
      rw [hh, Bool.true_and, hget] at HE
      have ee : (absE L[0]).1 = L[0].1 ∧ (absE L[0]).2.1 = L[0].2.1 := ⟨rfl, rfl⟩
      rw [ee.1, ee.2] at HE
      obtain ⟨b, off, bo, bcap, rfl, eb, c0, c1, c2, hr⟩ := ((unhide HH).ext (unhide H4).1).at 0 h00
      rw [Nat.zero_mul, Nat.add_zero] at c0 c1 c2
      have hLz : (0 : Int) < (L.length : Int) := by omega
      have HCH := hide (fun wx (hx : Ext w4 wx) => isChain_any (((unhide HH).ext (unhide H4).1).ext hx) h00 hL hgood.1 hgood.2)
      have HP := hide (fun wx => hasPowers_any L[0].1 L[0].2.1 (.slice bo L[0].2.2.2.length bcap) bo L[0].2.2.2.length bcap rfl hgood.1 hgood.2 wx)
      generalize L[0].1 = W at *
      generalize L[0].2.1 = H at *
      generalize L[0].2.2.2.length = bn at *
      clear hh hget ee hr eb hw0 hgood
      have mcase : (mipB I = true ∧ (I.mn == 3) = true) ∨ (mipB I = true ∧ (I.mn == 3) = false ∧ (I.mn == 4) = true) ∨ (mipB I = false ∧ (I.mn == 3) = false ∧ (I.mn == 4) = false) := by
        unfold mipB
        by_cases m3 : I.mn = 3
        · exact .inl ⟨by simp [m3], by simp [m3]⟩
        · by_cases m4 : I.mn = 4
          · exact .inr (.inl ⟨by simp [m4], by simp [m3], by simp [m4]⟩)
          · exact .inr (.inr ⟨by simp [m3, m4], by simp [m3], by simp [m4]⟩)
      cases hpp : (powB W && powB H) with
      | false =>
        rw [hpp] at HP
        rw [hpp, if_pos rfl] at HE
        clear hpp HCH
        have wcase : ((I.ws == 2) = true ∧ (I.wt == 2) = true ∧ (decide (I.ws = 2) && decide (I.wt = 2)) = true) ∨ ((I.ws == 2) = true ∧ (I.wt == 2) = false ∧ (decide (I.ws = 2) && decide (I.wt = 2)) = false) ∨ ((I.ws == 2) = false ∧ (decide (I.ws = 2) && decide (I.wt = 2)) = false) := by
          by_cases s2 : I.ws = 2
          · by_cases t2 : I.wt = 2
            · exact .inl ⟨by simp [s2], by simp [t2], by simp [s2, t2]⟩
            · exact .inr (.inl ⟨by simp [s2], by simp [t2], by simp [t2]⟩)
          · exact .inr (.inr ⟨by simp [s2], by simp [s2]⟩)
        rcases wcase with ⟨v1, v2, v3⟩ | ⟨v1, v2, v3⟩ | ⟨v1, v3⟩
        all_goals
          rw [v3] at HE
          clear v3
          rcases mcase with ⟨m0, m1⟩ | ⟨m0, m1, m2⟩ | ⟨m0, m1, m2⟩
          all_goals
            rw [m0] at HE
            clear m0
            go_wp2_with fail
            refine (unhide HP _).mono ?_
            rintro e w5 ⟨rfl, hx5⟩
            obtain ⟨q0, q1, q2, q3, q4, q5⟩ := ((unhide H4).2.ext hx5).six
            have HX5 := hide ((unhide H4).1.trans hx5)
            clear hx5
            go_wp2
            go_ret
            rw [unhide HE]
            exact ⟨by simp, unhide HX5⟩
      | true =>
        rw [hpp] at HP
        rw [hpp, if_neg (by simp)] at HE
        clear hpp
        rcases mcase with ⟨m0, m1⟩ | ⟨m0, m1, m2⟩ | ⟨m0, m1, m2⟩
        · rw [m0, if_pos rfl] at HE
          clear m0
          go_wp2_with fail
          refine (unhide HP _).mono ?_
          rintro e w5 ⟨rfl, hx5⟩
          obtain ⟨q0, q1, q2, q3, q4, q5⟩ := ((unhide H4).2.ext hx5).six
          have HCH5 := hide (unhide HCH _ hx5)
          have HX5 := hide ((unhide H4).1.trans hx5)
          clear hx5
          go_wp2_with fail
          refine (unhide HCH5).mono ?_
          rintro e w6 ⟨rfl, hx6⟩
          have HX6 := hide ((unhide HX5).trans hx6)
          clear hx6
          go_wp2
          go_ret
          rw [unhide HE]
          exact ⟨rfl, unhide HX6⟩
        · rw [m0, if_pos rfl] at HE
          clear m0
          go_wp2_with fail
          refine (unhide HP _).mono ?_
          rintro e w5 ⟨rfl, hx5⟩
          obtain ⟨q0, q1, q2, q3, q4, q5⟩ := ((unhide H4).2.ext hx5).six
          have HCH5 := hide (unhide HCH _ hx5)
          have HX5 := hide ((unhide H4).1.trans hx5)
          clear hx5
          go_wp2_with fail
          refine (unhide HCH5).mono ?_
          rintro e w6 ⟨rfl, hx6⟩
          have HX6 := hide ((unhide HX5).trans hx6)
          clear hx6
          go_wp2
          go_ret
          rw [unhide HE]
          exact ⟨rfl, unhide HX6⟩
        · rw [m0, if_neg (by simp)] at HE
          clear m0
          go_wp2_with fail
          refine (unhide HP _).mono ?_
          rintro e w5 ⟨rfl, hx5⟩
          have HX5 := hide ((unhide H4).1.trans hx5)
          clear hx5
          go_wp2
          go_ret
          rw [unhide HE]
          exact ⟨rfl, unhide HX5⟩
end
end Go.Proofs.YtglfhmlcmffoaaaGreat

/-
  Plain facts on colours out of pictures: numbers wrapped into places, colours between pixels. Nothing here speaks of the program.
-/
namespace Go.Proofs.YtglfhmlcmffoaaaGreat
open Go.RowKit

/-- A whole number, wrapped into n places. -/
def wrapI (m i n : Int) : Int :=
  if n < 1 ∨ 64 < n then 0 else if m = 1 then i % n else if m = 2 then max 0 (min i (n - 1)) else if m = 3 then min (i % (2 * n)) (2 * n - 1 - i % (2 * n)) else 0
theorem wrapI_bd {m i n : Int} (h1 : 1 ≤ n) (h2 : n ≤ 64) : 0 ≤ wrapI m i n ∧ wrapI m i n < n := by
  unfold wrapI
  rw [if_neg (by omega)]
  have a := Int.emod_nonneg i (show n ≠ 0 by omega)
  have b := Int.emod_lt_of_pos i (show 0 < n by omega)
  have c := Int.emod_nonneg i (show 2 * n ≠ 0 by omega)
  have d := Int.emod_lt_of_pos i (show 0 < 2 * n by omega)
  generalize i % n = x at *
  generalize i % (2 * n) = y at *
  split
  · omega
  · split
    · omega
    · split <;> omega
theorem emod_tmod {i n : Int} (h : 0 < n) : i % n = if i.tmod n < 0 then i.tmod n + n else i.tmod n := by
  have h1 := Int.tmod_add_mul_tdiv i n
  have h2 := Int.emod_add_mul_ediv i n
  have a := Int.emod_nonneg i (show n ≠ 0 by omega)
  have b := Int.emod_lt_of_pos i h
  have c := Int.tmod_lt_of_pos i h
  have d : -n < i.tmod n := by
    have := Int.tmod_lt_of_pos (-i) h
    rw [Int.neg_tmod] at this
    omega
  by_cases hn : i.tmod n < 0
  · rw [if_pos hn]
    rw [← Int.emod_eq_of_lt (a := i.tmod n + n) (b := n) (by omega) (by omega)]
    have e : i = (i.tmod n + n) + n * (i.tdiv n - 1) := by rw [Int.mul_sub]; omega
    conv => lhs; rw [e]
    rw [Int.add_mul_emod_self_left]
  · rw [if_neg hn]
    rw [← Int.emod_eq_of_lt (a := i.tmod n) (b := n) (by omega) (by omega)]
    conv => lhs; rw [← h1]
    rw [Int.add_mul_emod_self_left, Int.emod_eq_of_lt (by omega) (by omega)]
theorem tmod_bd {i n : Int} (h : 0 < n) : -n < i.tmod n ∧ i.tmod n < n := by
  have c := Int.tmod_lt_of_pos i h
  have := Int.tmod_lt_of_pos (-i) h
  rw [Int.neg_tmod] at this
  omega

/-- The place of a pixel of a level. -/
def plN (W H ws wt i j : Int) : Nat := (wrapI wt j H * W + wrapI ws i W).toNat
theorem plN_eq {W H ws wt i j : Int} (hW : 1 ≤ W ∧ W ≤ 64) (hH : 1 ≤ H ∧ H ≤ 64) : ((plN W H ws wt i j : Nat) : Int) = wrapI wt j H * W + wrapI ws i W := by
  have a := wrapI_bd (m := wt) (i := j) hH.1 hH.2
  have b := wrapI_bd (m := ws) (i := i) hW.1 hW.2
  have c : 0 ≤ wrapI wt j H * W := Int.mul_nonneg a.1 (by omega)
  unfold plN
  omega
theorem plN_lt {W H ws wt i j : Int} (hW : 1 ≤ W ∧ W ≤ 64) (hH : 1 ≤ H ∧ H ≤ 64) : (((plN W H ws wt i j : Nat) : Int) + 1) ≤ W * H := by
  rw [plN_eq hW hH]
  have a := wrapI_bd (m := wt) (i := j) hH.1 hH.2
  have b := wrapI_bd (m := ws) (i := i) hW.1 hW.2
  have c : wrapI wt j H * W ≤ (H - 1) * W := Int.mul_le_mul_of_nonneg_right (by omega) (by omega)
  rw [Int.sub_mul, Int.one_mul, Int.mul_comm H W] at c
  omega

/-- The colour of a level at whole places. -/
def txI (I : Img) (l : Lev) (i j : Int) : Nat → Int := colN I.f.toNat (numOf (cellL (sizI I.f).toNat l.2.2 (plN l.1 l.2.1 I.ws I.wt i j)))
/-- The nearest colour. -/
def nrI (I : Img) (l : Lev) (u v : Int) : Nat → Int := txI I l (l.1 * u / 65536) (l.2.1 * v / 65536)
/-- Four numbers together. -/
def shS (a b c d f g : Int) : Int := a * ((65536 - f) * (65536 - g)) + b * (f * (65536 - g)) + c * ((65536 - f) * g) + d * (f * g)
def linI (a b c d f g : Int) : Int := (shS a b c d f g + 2147483648) / 4294967296
/-- The linear colour. -/
def lnI (I : Img) (l : Lev) (u v : Int) : Nat → Int := fun k =>
  linI (txI I l ((l.1 * u - 32768) / 65536) ((l.2.1 * v - 32768) / 65536) k) (txI I l ((l.1 * u - 32768) / 65536 + 1) ((l.2.1 * v - 32768) / 65536) k) (txI I l ((l.1 * u - 32768) / 65536) ((l.2.1 * v - 32768) / 65536 + 1) k) (txI I l ((l.1 * u - 32768) / 65536 + 1) ((l.2.1 * v - 32768) / 65536 + 1) k)
    ((l.1 * u - 32768) % 65536) ((l.2.1 * v - 32768) % 65536)
/-- Why there is no colour. -/
def rfE (I : Img) (lv : Int) : Int := if okB (sizI I.f) I = false then 180 else if hasB I.L lv = true then 0 else 4
def levAt (I : Img) (lv : Int) : Lev := I.L.getD lv.toNat noLev
/-- The level of a lod. -/
def lodI (I : Img) (lod : Int) : Int := wrapI 2 ((lod + 32768) / 65536) (cntI (levAt I 0).1 (levAt I 0).2.1)
def askL (I : Img) (lod : Int) : Int := if lod ≤ 0 then 0 else if I.mn = 3 ∨ I.mn = 4 then lodI I lod else 0
def askM (I : Img) (lod : Int) : Int := if lod ≤ 0 then I.mg else if I.mn = 3 then 1 else if I.mn = 4 then 2 else I.mn
def blk0 : Nat → Int := fun k => if k = 3 then 65536 else 0
/-- The colour at a place. -/
def atI (I : Img) (u v lod : Int) : Nat → Int :=
  if cmpB I = false then blk0 else if askM I lod = 2 then lnI I (levAt I (askL I lod)) u v else nrI I (levAt I (askL I lod)) u v

/-! ### What lies between -/
theorem sh_sum (f g : Int) : (65536 - f) * (65536 - g) + f * (65536 - g) + (65536 - f) * g + f * g = 4294967296 := by grind
theorem shares {f g : Int} (hf : 0 ≤ f ∧ f < 65536) (hg : 0 ≤ g ∧ g < 65536) : 0 ≤ (65536 - f) * (65536 - g) ∧ 0 ≤ f * (65536 - g) ∧ 0 ≤ (65536 - f) * g ∧ 0 ≤ f * g :=
  ⟨Int.mul_nonneg (by omega) (by omega), Int.mul_nonneg (by omega) (by omega), Int.mul_nonneg (by omega) (by omega), Int.mul_nonneg (by omega) (by omega)⟩
theorem sh_bd {a b c d f g lo hi : Int} (ha : lo ≤ a ∧ a ≤ hi) (hb : lo ≤ b ∧ b ≤ hi) (hc : lo ≤ c ∧ c ≤ hi) (hd : lo ≤ d ∧ d ≤ hi) (hf : 0 ≤ f ∧ f < 65536) (hg : 0 ≤ g ∧ g < 65536) :
    lo * 4294967296 ≤ shS a b c d f g ∧ shS a b c d f g ≤ hi * 4294967296 := by
  obtain ⟨p, q, r, s⟩ := shares hf hg
  have e := sh_sum f g
  unfold shS
  generalize (65536 - f) * (65536 - g) = P at *
  generalize f * (65536 - g) = Q at *
  generalize (65536 - f) * g = R at *
  generalize f * g = S at *
  have a1 := Int.mul_le_mul_of_nonneg_right ha.1 p
  have a2 := Int.mul_le_mul_of_nonneg_right ha.2 p
  have b1 := Int.mul_le_mul_of_nonneg_right hb.1 q
  have b2 := Int.mul_le_mul_of_nonneg_right hb.2 q
  have c1 := Int.mul_le_mul_of_nonneg_right hc.1 r
  have c2 := Int.mul_le_mul_of_nonneg_right hc.2 r
  have d1 := Int.mul_le_mul_of_nonneg_right hd.1 s
  have d2 := Int.mul_le_mul_of_nonneg_right hd.2 s
  rw [← e, Int.mul_add, Int.mul_add, Int.mul_add, Int.mul_add, Int.mul_add, Int.mul_add]
  omega
theorem lin_bd {a b c d f g lo hi : Int} (ha : lo ≤ a ∧ a ≤ hi) (hb : lo ≤ b ∧ b ≤ hi) (hc : lo ≤ c ∧ c ≤ hi) (hd : lo ≤ d ∧ d ≤ hi) (hf : 0 ≤ f ∧ f < 65536) (hg : 0 ≤ g ∧ g < 65536) :
    lo ≤ linI a b c d f g ∧ linI a b c d f g ≤ hi := by
  have h := sh_bd ha hb hc hd hf hg
  unfold linI
  omega
theorem lin_zero (a b c d : Int) : linI a b c d 0 0 = a := by
  have e : shS a b c d 0 0 = a * 4294967296 := by unfold shS; grind
  unfold linI
  rw [e]
  omega

theorem col_bd (f : Nat) (x : Int) (h1 : 1 ≤ f) (h7 : f ≤ 7) (k : Nat) (hk : k < 4) : 0 ≤ colN f x k ∧ colN f x k ≤ 65536 := by
  have hn : ∀ s b, 1 ≤ b → b ≤ 16 → 0 ≤ numI (x / 2 ^ s % 2 ^ b) b ∧ numI (x / 2 ^ s % 2 ^ b) b ≤ 65536 := fun s b hb1 hb2 => num_bound hb1 hb2 (mod_full _ b).1 (mod_full _ b).2
  rcases seven h1 h7 with rfl | rfl | rfl | rfl | rfl | rfl | rfl <;> rcases (by omega : k = 0 ∨ k = 1 ∨ k = 2 ∨ k = 3) with rfl | rfl | rfl | rfl
  · exact hn 0 8 (by decide) (by decide)
  · exact hn 8 8 (by decide) (by decide)
  · exact hn 16 8 (by decide) (by decide)
  · exact hn 24 8 (by decide) (by decide)
  · exact hn 11 5 (by decide) (by decide)
  · exact hn 5 6 (by decide) (by decide)
  · exact hn 0 5 (by decide) (by decide)
  · exact (by decide : (0 : Int) ≤ 65536 ∧ (65536 : Int) ≤ 65536)
  · exact hn 12 4 (by decide) (by decide)
  · exact hn 8 4 (by decide) (by decide)
  · exact hn 4 4 (by decide) (by decide)
  · exact hn 0 4 (by decide) (by decide)
  · exact hn 11 5 (by decide) (by decide)
  · exact hn 6 5 (by decide) (by decide)
  · exact hn 1 5 (by decide) (by decide)
  · exact hn 0 1 (by decide) (by decide)
  · exact hn 0 8 (by decide) (by decide)
  · exact hn 0 8 (by decide) (by decide)
  · exact hn 0 8 (by decide) (by decide)
  · exact (by decide : (0 : Int) ≤ 65536 ∧ (65536 : Int) ≤ 65536)
  · exact (by decide : (0 : Int) ≤ 0 ∧ (0 : Int) ≤ 65536)
  · exact (by decide : (0 : Int) ≤ 0 ∧ (0 : Int) ≤ 65536)
  · exact (by decide : (0 : Int) ≤ 0 ∧ (0 : Int) ≤ 65536)
  · exact hn 0 8 (by decide) (by decide)
  · exact hn 0 8 (by decide) (by decide)
  · exact hn 0 8 (by decide) (by decide)
  · exact hn 0 8 (by decide) (by decide)
  · exact hn 8 8 (by decide) (by decide)

/-! ### Levels of an image that may be -/
theorem siz_ne {f : Int} (h : sizI f ≠ 0) : 1 ≤ f ∧ f ≤ 7 := by
  unfold sizI at h
  by_cases h1 : f < 1 ∨ 7 < f
  · rw [if_neg (by omega), if_neg (by omega), if_neg (by omega)] at h
    exact absurd rfl h
  · omega
/-- What is known of a level that is there. -/
structure LvOk (I : Img) (l : Lev) : Prop where
  f : 1 ≤ I.f ∧ I.f ≤ 7
  w : 1 ≤ l.1 ∧ l.1 ≤ 64
  h : 1 ≤ l.2.1 ∧ l.2.1 ≤ 64
  n : (l.2.2.length : Int) = l.1 * l.2.1 * sizI I.f
theorem has_lt {A : List Lev} {i : Int} (h : hasB A i = true) : 0 ≤ i ∧ i < A.length ∧ 0 < (A.getD i.toNat noLev).1 := by
  simp only [hasB, Bool.and_eq_true, decide_eq_true_eq] at h
  omega
theorem lv_ok {I : Img} {lv : Int} (hok : okB (sizI I.f) I = true) (h : hasB I.L lv = true) : LvOk I (levAt I lv) := by
  obtain ⟨h0, h1, h2⟩ := has_lt h
  obtain ⟨a1, a2, a3, a4, _⟩ := okB_iff.1 hok
  have hlt : lv.toNat < I.L.length := by omega
  have e : I.L.getD lv.toNat noLev = I.L[lv.toNat] := by simp [hlt]
  have hm : levAt I lv ∈ I.L := by
    unfold levAt
    rw [e]
    exact List.getElem_mem hlt
  have hl := a3 _ hm
  have hs := (a4 (by omega)).1
  have hw : 0 < (levAt I lv).1 := h2
  unfold lvB at hl
  rw [Bool.or_eq_true] at hl
  rcases hl with hl | hl
  · have := (noneB_iff.1 hl).1
    omega
  · obtain ⟨b1, b2, b3⟩ := goodB_iff.1 hl
    exact ⟨siz_ne hs, b1, b2, b3⟩
theorem lv_mem {I : Img} {lv : Int} (h : hasB I.L lv = true) : ∃ hlt : lv.toNat < I.L.length, levAt I lv = I.L[lv.toNat] := by
  obtain ⟨h0, h1, h2⟩ := has_lt h
  refine ⟨by omega, ?_⟩
  unfold levAt
  have hlt : lv.toNat < I.L.length := by omega
  simp [hlt]
theorem LvOk.siz {I : Img} {l : Lev} (h : LvOk I l) : (sizI I.f).toNat = siz I.f.toNat ∧ 1 ≤ I.f.toNat ∧ I.f.toNat ≤ 7 ∧ sizI I.f = (siz I.f.toNat : Nat) ∧ ((I.f.toNat : Nat) : Int) = I.f := by
  have h1 := h.f
  have e : ((I.f.toNat : Nat) : Int) = I.f := by omega
  have h2 := siz_eq I.f.toNat
  rw [e] at h2
  refine ⟨by omega, by omega, by omega, h2.symm, e⟩
theorem tx_bd {I : Img} {l : Lev} (h : LvOk I l) (i j : Int) (k : Nat) (hk : k < 4) : 0 ≤ txI I l i j k ∧ txI I l i j k ≤ 65536 := col_bd _ _ h.siz.2.1 h.siz.2.2.1 k hk
theorem ln_bd {I : Img} {l : Lev} (h : LvOk I l) (u v : Int) (k : Nat) (hk : k < 4) : 0 ≤ lnI I l u v k ∧ lnI I l u v k ≤ 65536 :=
  lin_bd (tx_bd h _ _ k hk) (tx_bd h _ _ k hk) (tx_bd h _ _ k hk) (tx_bd h _ _ k hk) ⟨Int.emod_nonneg _ (by decide), Int.emod_lt_of_pos _ (by decide)⟩ ⟨Int.emod_nonneg _ (by decide), Int.emod_lt_of_pos _ (by decide)⟩

/-! ### Which level -/
theorem cmp_ok {I : Img} (h : cmpB I = true) : okB (sizI I.f) I = true ∧ hasB I.L 0 = true := by
  simp only [cmpB, Bool.and_eq_true] at h
  exact ⟨h.1.1, h.1.2⟩
theorem lod_bd {I : Img} (hl : LvOk I (levAt I 0)) (lod : Int) : 0 ≤ lodI I lod ∧ lodI I lod ≤ (lgs (levAt I 0).1 (levAt I 0).2.1 : Nat) := by
  have e : cntI (levAt I 0).1 (levAt I 0).2.1 = (lgs (levAt I 0).1 (levAt I 0).2.1 : Int) + 1 := by
    unfold cntI
    rw [if_pos ⟨sideB_iff.2 hl.w, sideB_iff.2 hl.h⟩]
  have h6 : lgs (levAt I 0).1 (levAt I 0).2.1 ≤ 6 := lg_le _
  unfold lodI
  rw [e]
  have := wrapI_bd (m := 2) (i := (lod + 32768) / 65536) (n := (lgs (levAt I 0).1 (levAt I 0).2.1 : Int) + 1) (by omega) (by omega)
  omega
theorem ask_has {I : Img} (h : cmpB I = true) (lod : Int) : hasB I.L (askL I lod) = true := by
  obtain ⟨hok, h0⟩ := cmp_ok h
  unfold askL
  split
  · exact h0
  · split
    · rename_i hm
      have hl := lv_ok hok h0
      have hb := lod_bd hl lod
      simp only [cmpB, Bool.and_eq_true] at h
      have h3 := h.2
      have hmip : mipB I = true := by unfold mipB; exact decide_eq_true hm
      rw [hmip] at h3
      have hch : chainB I.L = true := by
        by_cases hp : (powB (I.L.getD 0 noLev).1 && powB (I.L.getD 0 noLev).2.1) = false
        · rw [if_pos hp] at h3
          simp at h3
        · rw [if_neg hp, if_pos rfl] at h3
          exact h3
      simp only [chainB, Bool.and_eq_true, decide_eq_true_eq, List.all_eq_true] at hch
      obtain ⟨c1, c2⟩ := hch
      have hb2 : lodI I lod ≤ (lgs (I.L.getD 0 noLev).1 (I.L.getD 0 noLev).2.1 : Nat) := hb.2
      have c3 := c2 (lodI I lod).toNat (List.mem_range.2 (by omega))
      unfold stepB at c3
      have c4 := of_decide_eq_true c3
      have c5 := halfs_side hl.w (lodI I lod).toNat
      have c6 : (I.L.getD (lodI I lod).toNat noLev).1 = halfs (levAt I 0).1 (lodI I lod).toNat := c4.1
      unfold hasB
      rw [Bool.and_eq_true, decide_eq_true_eq, decide_eq_true_eq]
      exact ⟨by omega, by omega⟩
    · exact h0
end Go.Proofs.YtglfhmlcmffoaaaGreat

/-
  Colours: the walks of modulo, Wrap, between and refusal.
-/
namespace Go.Proofs.YtglfhmlcmffoaaaGreat
open Go.RowKit
set_option linter.unusedVariables false
set_option linter.unusedSimpArgs false

set_option maxHeartbeats 1000000 in
theorem modulo_any (i n : Int) (w : World) (h1 : 1 ≤ n) (h2 : n ≤ 128) :
    Calls Tryz.prog 214 #[.int .i64 i, .int .i64 n] w fun e w' => e = .returned (.int .i64 (i % n)) ∧ w' = w := by
  obtain ⟨b1, b2⟩ := tmod_bd (i := i) (n := n) (by omega)
  have E := hide (emod_tmod (i := i) (n := n) (by omega))
  have hn0 : (n == 0) = false := by rw [beq_eq_false_iff_ne]; omega
  have hn1 : ¬ n = 0 := by omega
  have hn2 : ¬ n = -1 := by omega
  by_cases hneg : i.tmod n < 0
  · rw [if_pos hneg] at E
    go_enter Tryz.func214, Tryz.ntmps214
    go_wp2
    go_ret
    rw [unhide E]
    exact ⟨rfl, rfl⟩
  · rw [if_neg hneg] at E
    go_enter Tryz.func214, Tryz.ntmps214
    go_wp2
    go_ret
    rw [unhide E]
    exact ⟨rfl, rfl⟩

set_option maxHeartbeats 1000000 in
theorem wrap_any (m i n : Int) (w : World) :
    Calls Tryz.prog 195 #[.int .i64 m, .int .i64 i, .int .i64 n] w fun e w' => e = .returned (.int .i64 (wrapI m i n)) ∧ w' = w := by
  by_cases h1 : n < 1
  · have E := hide (show wrapI m i n = 0 by unfold wrapI; rw [if_pos (.inl h1)])
    go_enter Tryz.func195, Tryz.ntmps195
    go_wp2
    go_ret
    rw [unhide E]
    exact ⟨rfl, rfl⟩
  by_cases h2 : 64 < n
  · have E := hide (show wrapI m i n = 0 by unfold wrapI; rw [if_pos (.inr h2)])
    go_enter Tryz.func195, Tryz.ntmps195
    go_wp2
    go_ret
    rw [unhide E]
    exact ⟨rfl, rfl⟩
  have E := hide (show wrapI m i n = if m = 1 then i % n else if m = 2 then max 0 (min i (n - 1)) else if m = 3 then min (i % (2 * n)) (2 * n - 1 - i % (2 * n)) else 0 by unfold wrapI; rw [if_neg (by omega)])
  by_cases m1 : m = 1
  · rw [if_pos m1] at E
    have d1 : (m == 1) = true := by rw [beq_iff_eq]; exact m1
    clear m1
    go_enter Tryz.func195, Tryz.ntmps195
    go_wp2_with fail
    refine (modulo_any i n _ (by omega) (by omega)).mono ?_
    rintro e w1 ⟨rfl, rfl⟩
    go_wp2
    go_ret
    rw [unhide E]
    exact ⟨rfl, rfl⟩
  have d1 : (m == 1) = false := by rw [beq_eq_false_iff_ne]; exact m1
  rw [if_neg m1] at E
  clear m1
  by_cases m2 : m = 2
  · rw [if_pos m2] at E
    have d2 : (m == 2) = true := by rw [beq_iff_eq]; exact m2
    clear m2
    by_cases c1 : i ≤ n - 1
    · by_cases c0 : 0 ≤ i
      · replace E := hide (show wrapI m i n = i by rw [unhide E]; omega)
        go_enter Tryz.func195, Tryz.ntmps195
        go_wp2
        all_goals go_ret
        all_goals rw [unhide E]
        all_goals exact ⟨by first | rfl | (exact congrArg (fun z => Ending.returned (Value.int .i64 z)) (by omega)), rfl⟩
      · replace E := hide (show wrapI m i n = 0 by rw [unhide E]; omega)
        go_enter Tryz.func195, Tryz.ntmps195
        go_wp2
        all_goals go_ret
        all_goals rw [unhide E]
        all_goals exact ⟨by first | rfl | (exact congrArg (fun z => Ending.returned (Value.int .i64 z)) (by omega)), rfl⟩
    · replace E := hide (show wrapI m i n = n - 1 by rw [unhide E]; omega)
      go_enter Tryz.func195, Tryz.ntmps195
      go_wp2
      all_goals go_ret
      all_goals rw [unhide E]
      all_goals exact ⟨by first | rfl | (exact congrArg (fun z => Ending.returned (Value.int .i64 z)) (by omega)), rfl⟩
  have d2 : (m == 2) = false := by rw [beq_eq_false_iff_ne]; exact m2
  rw [if_neg m2] at E
  clear m2
  by_cases m3 : m = 3
  · rw [if_pos m3] at E
    have d3 : (m == 3) = true := by rw [beq_iff_eq]; exact m3
    clear m3
    go_enter Tryz.func195, Tryz.ntmps195
    go_wp2_with fail
    refine (modulo_any i (2 * n) _ (by omega) (by omega)).mono ?_
    rintro e w1 ⟨rfl, rfl⟩
    have a1 := Int.emod_nonneg i (show 2 * n ≠ 0 by omega)
    have a2 := Int.emod_lt_of_pos i (show 0 < 2 * n by omega)
    generalize i % (2 * n) = x at *
    by_cases c1 : x ≤ 2 * n - 1 - x
    · replace E := hide (show wrapI m i n = x by rw [unhide E]; omega)
      go_wp2
      all_goals go_ret
      all_goals rw [unhide E]
      all_goals exact ⟨by first | rfl | (exact congrArg (fun z => Ending.returned (Value.int .i64 z)) (by omega)), rfl⟩
    · replace E := hide (show wrapI m i n = 2 * n - 1 - x by rw [unhide E]; omega)
      go_wp2
      all_goals go_ret
      all_goals rw [unhide E]
      all_goals exact ⟨by first | rfl | (exact congrArg (fun z => Ending.returned (Value.int .i64 z)) (by omega)), rfl⟩
  have d3 : (m == 3) = false := by rw [beq_eq_false_iff_ne]; exact m3
  rw [if_neg m3] at E
  clear m3
  go_enter Tryz.func195, Tryz.ntmps195
  go_wp2
  go_ret
  rw [unhide E]
  exact ⟨rfl, rfl⟩

theorem mul_fix {s u : Int} (h1 : 1 ≤ s ∧ s ≤ 64) (hu : I32 u) : -137438953472 ≤ s * u ∧ s * u ≤ 137438953472 := by
  obtain ⟨a, b⟩ := hu
  have c : s * u ≤ s * 2147483648 := Int.mul_le_mul_of_nonneg_left (by omega) (by omega)
  have d : s * (-2147483648) ≤ s * u := Int.mul_le_mul_of_nonneg_left (by omega) (by omega)
  omega

set_option maxHeartbeats 1000000 in
theorem between_any (s u : Int) (w : World) (h1 : 1 ≤ s ∧ s ≤ 64) (hu : I32 u) :
    Calls Tryz.prog 171 #[.int .i64 s, .int .i32 u] w fun e w' => e = .returned (.tuple #[.int .i64 ((s * u - 32768) / 65536), .int .i64 ((s * u - 32768) % 65536)]) ∧ w' = w := by
  obtain ⟨b1, b2⟩ := mul_fix h1 hu
  have hu1 := hu.1
  have hu2 := hu.2
  clear hu
  go_enter Tryz.func171, Tryz.ntmps171
  go_wp2
  refine bodyPost_ret (v := .tuple #[.int .i64 ((s * u - 32768) / 65536), .int .i64 ((s * u - 32768) % 65536)]) ?_ rfl ⟨rfl, rfl⟩
  have e : s * u - 32768 - (s * u - 32768) / 65536 * 65536 = (s * u - 32768) % 65536 := by omega
  simp [results, Tryz.results171, go_sem, e]

section
variable {w : World} {v : Value} {L : List Ent} {I : Img}
theorem rf_yes {lv : Int} (hok : okB (sizI I.f) I = true) (h : hasB I.L lv = true) : rfE I lv = 0 := by unfold rfE; rw [hok, h]; simp
theorem rf_no {lv : Int} (hok : okB (sizI I.f) I = true) (h : hasB I.L lv = false) : rfE I lv = 4 := by unfold rfE; rw [hok, h]; simp
theorem rf_bad {lv : Int} (hok : okB (sizI I.f) I = false) : rfE I lv = 180 := by unfold rfE; rw [hok]; simp
set_option maxRecDepth 10000 in
set_option maxHeartbeats 1000000 in
theorem refusal_any (h : LR w v L) (hL : L.length ≤ 4000000000000) (hA : I.L = absL L) (lv : Int) :
    Calls Tryz.prog 170 #[.agg #[.int .i64 I.f, v, .int .i64 I.ws, .int .i64 I.wt, .int .i64 I.mn, .int .i64 I.mg], .int .i64 lv] w fun e w' => e = .returned (.int .i64 (rfE I lv)) ∧ Ext w w' := by
  obtain ⟨ao, cap, rfl, hao, hlc, hcm, _⟩ := h.shape
  have hcm2 : cap ≤ 9223372036854775807 := by unfold maxLen at hcm; omega
  have H1 := hide (And.intro ((Ext.refl w).alloc (.cells #[.int .i64 I.f, .slice ao L.length cap, .int .i64 I.ws, .int .i64 I.wt, .int .i64 I.mn, .int .i64 I.mg] 112)) (Blk.new w #[.int .i64 I.f, .slice ao L.length cap, .int .i64 I.ws, .int .i64 I.wt, .int .i64 I.mn, .int .i64 I.mg] 112))
  have HA := hide hA
  have HH := hide h
  clear h hA hao hcm
  go_enter Tryz.func170, Tryz.ntmps170
  go_wp2_with fail
  refine (check_any (I := I) ((unhide HH).ext (unhide H1).1) hL (unhide HA)).mono ?_
  rintro e w3 ⟨rfl, hx3⟩
  have H3 := hide (And.intro ((unhide H1).1.trans hx3) ((unhide H1).2.ext hx3))
  clear H1 hx3
  obtain ⟨q0, q1, q2, q3, q4, q5⟩ := (unhide H3).2.six
  cases hok : okB (sizI I.f) I with
  | false =>
    have c1 := chkE_no (I := I) (by rw [hok]; simp)
    have E := hide (rf_bad (lv := lv) hok)
    rw [c1]
    clear c1 hok
    go_wp2
    go_ret
    rw [unhide E]
    exact ⟨rfl, (unhide H3).1⟩
  | true =>
  have c1 := chkE_yes (I := I) hok
  rw [c1]
  have HY : Hid (hasB (absL L) lv = true → rfE I lv = 0) := fun h9 => rf_yes hok (by rw [unhide HA]; exact h9)
  have HN : Hid (hasB (absL L) lv = false → rfE I lv = 4) := fun h9 => rf_no hok (by rw [unhide HA]; exact h9)
  have HOK : Hid (∀ l ∈ absL L, lvB (sizI I.f) l = true) := by
    have := (okB_iff.1 hok).2.2.1
    rw [unhide HA] at this
    exact this
  clear c1 hok
  by_cases a1 : lv < 0
  · have E := hide (unhide HN (by simp [hasB]; omega))
    clear HN HY
    go_wp2
    go_ret
    rw [unhide E]
    exact ⟨rfl, (unhide H3).1⟩
  obtain ⟨k, rfl⟩ := Int.eq_ofNat_of_zero_le (show 0 ≤ lv by omega)
  by_cases a2 : k < L.length
  · obtain ⟨b, off, bo, bcap, rfl, eb, c0, c1, c2, hr⟩ := ((unhide HH).ext (unhide H3).1).at k a2
    have E0 : hasB (absL L) (k : Int) = decide (0 < L[k].1) := by unfold hasB; rw [absL_len, Int.toNat_natCast, absL_getD L k a2]; simp [a2, absE]; rfl
    have a3 : (k : Int) < (L.length : Int) := by omega
    have hl := unhide HOK (absE L[k]) (by rw [← absL_get L k a2]; exact List.getElem_mem _)
    have hW : 0 ≤ L[k].1 := by
      unfold lvB at hl
      rw [Bool.or_eq_true] at hl
      rcases hl with hl | hl
      · have h8 : L[k].1 = 0 := (noneB_iff.1 hl).1
        omega
      · have h8 : 1 ≤ L[k].1 := (goodB_iff.1 hl).1.1
        omega
    generalize L[k].1 = W at c0 E0 hW
    clear c1 c2 hr eb a2 hl
    by_cases hz : W = 0
    · have E := hide (unhide HN (by rw [E0]; simp; omega))
      have d0 : (W == 0) = true := by rw [beq_iff_eq]; exact hz
      clear HN HY E0 hz
      go_wp2
      go_ret
      rw [unhide E]
      exact ⟨rfl, (unhide H3).1⟩
    · have E := hide (unhide HY (by rw [E0]; simp; omega))
      have d0 : (W == 0) = false := by rw [beq_eq_false_iff_ne]; exact hz
      clear HN HY E0 hz
      go_wp2
      go_ret
      rw [unhide E]
      exact ⟨rfl, (unhide H3).1⟩
  · have E := hide (unhide HN (by simp [hasB, absL_len]; omega))
    have a3 : ¬ (k : Int) < (L.length : Int) := by omega
    clear HN HY
    go_wp2
    go_ret
    rw [unhide E]
    exact ⟨rfl, (unhide H3).1⟩
end
end Go.Proofs.YtglfhmlcmffoaaaGreat

/-
  Pixels: the walks of Pack, Unpack and Row. What the dump lacks is left out.
-/
namespace Go.Proofs.YtglfhmlcmffoaaaGreat
open Go.RowKit
set_option maxRecDepth 10000

theorem vrow_one (c : Nat → Int) (w : World) (t : TypeId) : VRow (w.alloc (.cells #[.int .i32 (c 0), .int .i32 (c 1), .int .i32 (c 2), .int .i32 (c 3)] t)) (.slice (some ⟨w.heap.size, 0, none⟩) 1 1) [c] := by
  refine .inr ⟨by simp, w.heap.size, 0, 1, rfl, fun i j hi hj => ?_⟩
  obtain rfl : i = 0 := by simpa using hi
  have := (Blk.at (w := w) (cs := #[.int .i32 (c 0), .int .i32 (c 1), .int .i32 (c 2), .int .i32 (c 3)]) (t := t) rfl).vec j hj
  simpa using this

theorem unpack_bad (f : Int) (v : Value) (w : World) (h : f < 1 ∨ 7 < f) :
    Calls Tryz.prog 196 #[.int .i64 f, v] w fun e w' => e = .returned (.tuple #[.agg #[.int .i32 (nul 0), .int .i32 (nul 1), .int .i32 (nul 2), .int .i32 (nul 3)], .int .i64 2]) ∧ Ext w w' := by
  go_enter Tryz.func196, Tryz.ntmps196
  go_wp2_with fail
  refine (find_bad f _ h).mono ?_
  rintro e w1 ⟨rfl, hx⟩
  have B := hide (Blk.ext (Blk.at (w := w) (b := w.heap.size) rfl) hx)
  have X := hide (((Ext.refl w).alloc _).trans hx)
  clear hx
  go_wp2_with (first
    | refine wpList_store_last rfl 180 (.tmp 6) (.tmp 11) rfl _ rfl (layF 0) rfl 19 size60 (layF_size _) rfl (layF_one _) ?_
    | refine wpList_store_row rfl 28 (.tmp 4) (.tmp 15) rfl w.heap.size #[.int .i32 (nul 0), .int .i32 (nul 1), .int .i32 (nul 2), .int .i32 (nul 3)] rfl rfl 28 _ ((unhide B).alloc _) size35 rfl (vec_one _) ?_)
  refine bodyPost_ret (v := .tuple #[.agg #[.int .i32 (nul 0), .int .i32 (nul 1), .int .i32 (nul 2), .int .i32 (nul 3)], .int .i64 2]) (results_cell_tmp Tryz.results196 _ _ w.heap.size 28 _ _ rfl _ rfl (((unhide B).alloc _).row) Tryz.underlying28 rfl size35) rfl ⟨rfl, ?_⟩
  exact ext_row ((unhide X).alloc _) (Nat.le_refl _)

theorem unpack_off (f : Nat) (ao : Option Addr) (n cap : Nat) (w : World) (h1 : 1 ≤ f) (h7 : f ≤ 7) (hn : n ≠ siz f) :
    Calls Tryz.prog 196 #[.int .i64 (f : Int), .slice ao n cap] w fun e w' => e = .returned (.tuple #[.agg #[.int .i32 (nul 0), .int .i32 (nul 1), .int .i32 (nul 2), .int .i32 (nul 3)], .int .i64 7]) ∧ Ext w w' := by
  have hd : ((n : Int) != (siz f : Int)) = true := by simp; omega
  go_enter Tryz.func196, Tryz.ntmps196
  go_wp2_with fail
  refine (find_any f _ h1 h7).mono ?_
  rintro e w1 ⟨rfl, hx⟩
  have B := hide (Blk.ext (Blk.at (w := w) (b := w.heap.size) rfl) hx)
  have X := hide (((Ext.refl w).alloc _).trans hx)
  have c1 : (w1.alloc (.cells (layF f) 180)).cell? ⟨w1.heap.size, 1, none⟩ = some (.int .i64 (siz f : Int)) := (Blk.at rfl).cell rfl
  clear hx
  go_wp2_with (first
    | refine wpList_store_last rfl 180 (.tmp 6) (.tmp 11) rfl _ rfl (layF f) rfl 19 size60 (layF_size _) rfl (layF_one _) ?_
    | refine wpList_store_row rfl 28 (.tmp 4) (.tmp 22) rfl w.heap.size #[.int .i32 (nul 0), .int .i32 (nul 1), .int .i32 (nul 2), .int .i32 (nul 3)] rfl rfl 28 _ ((unhide B).alloc _) size35 rfl (vec_one _) ?_)
  refine bodyPost_ret (v := .tuple #[.agg #[.int .i32 (nul 0), .int .i32 (nul 1), .int .i32 (nul 2), .int .i32 (nul 3)], .int .i64 7]) (results_cell_tmp Tryz.results196 _ _ w.heap.size 28 _ _ rfl _ rfl (((unhide B).alloc _).row) Tryz.underlying28 rfl size35) rfl ⟨rfl, ?_⟩
  exact ext_row ((unhide X).alloc _) (Nat.le_refl _)

theorem unpack_any (f : Nat) (ao : Option Addr) (cap : Nat) (xs : List Int) (w : World) (h1 : 1 ≤ f) (h7 : f ≤ 7) (hr : Row .u8 w (.slice ao xs.length cap) xs) (hB : Byt xs) (hl : xs.length = siz f) :
    Calls Tryz.prog 196 #[.int .i64 (f : Int), .slice ao xs.length cap] w fun e w' => e = .returned (.tuple #[.agg #[.int .i32 (colN f (numOf xs) 0), .int .i32 (colN f (numOf xs) 1), .int .i32 (colN f (numOf xs) 2), .int .i32 (colN f (numOf xs) 3)], .int .i64 0]) ∧ Ext w w' := by
  have hd : ((xs.length : Int) != (siz f : Int)) = false := by simp; omega
  have HL := hide hl
  clear hl
  go_enter Tryz.func196, Tryz.ntmps196
  go_wp2_with fail
  refine (find_any f _ h1 h7).mono ?_
  rintro e w1 ⟨rfl, hx⟩
  have B := hide (Blk.ext (Blk.at (w := w) (b := w.heap.size) rfl) hx)
  have X := hide (((Ext.refl w).alloc _).trans hx)
  have HR := hide (hr.ext (((Ext.refl w).alloc _).trans hx))
  have c1 : (w1.alloc (.cells (layF f) 180)).cell? ⟨w1.heap.size, 1, none⟩ = some (.int .i64 (siz f : Int)) := (Blk.at rfl).cell rfl
  clear hx hr
  go_wp2_with (first
    | refine wpList_store_last rfl 180 (.tmp 6) (.tmp 11) rfl _ rfl (layF f) rfl 19 size60 (layF_size _) rfl (layF_one _) ?_
    | refine wpList_load_row rfl 180 (.tmp 6) rfl w1.heap.size rfl 180 (layF f) (0, 0) _ (heap_alloc_last w1 _) Tryz.underlying180 rfl size60 ?_
    | fail)
  refine (colour_any f ao cap xs _ h1 h7 ((unhide HR).ext ((Ext.refl w1).alloc _)) hB (unhide HL)).mono ?_
  rintro e w2 ⟨rfl, hx⟩
  have B2 := hide (((unhide B).alloc _).ext hx)
  have X2 := hide (((unhide X).alloc _).trans hx)
  clear hx B X c1
  go_wp2_with (refine wpList_store_row rfl 28 (.tmp 4) (.tmp 25) rfl w.heap.size #[.int .i32 (colN f (numOf xs) 0), .int .i32 (colN f (numOf xs) 1), .int .i32 (colN f (numOf xs) 2), .int .i32 (colN f (numOf xs) 3)] rfl rfl 28 _ (unhide B2) size35 rfl (vec_one _) ?_)
  refine bodyPost_ret (v := .tuple #[.agg #[.int .i32 (colN f (numOf xs) 0), .int .i32 (colN f (numOf xs) 1), .int .i32 (colN f (numOf xs) 2), .int .i32 (colN f (numOf xs) 3)], .int .i64 0]) (results_cell_tmp Tryz.results196 _ _ w.heap.size 28 _ _ rfl _ rfl (unhide B2).row Tryz.underlying28 rfl size35) rfl ⟨rfl, ?_⟩
  exact ext_row (unhide X2) (Nat.le_refl _)
end Go.Proofs.YtglfhmlcmffoaaaGreat

/-
  Colours: the walk of colour.
-/
namespace Go.Proofs.YtglfhmlcmffoaaaGreat
open Go.RowKit
set_option linter.unusedVariables false
set_option linter.unusedSimpArgs false

/-- A part of a row. -/
theorem Row.part {w : World} {ao : Option Addr} {n cap : Nat} {xs : List Int} (h : Row .u8 w (.slice ao n cap) xs) (p m : Nat) (hm : 0 < m) (hp : p + m ≤ xs.length) :
    ∃ b off, ao = some ⟨b, off, none⟩ ∧ Row .u8 w (.slice (some ⟨b, off + p, none⟩) m (cap - p)) ((xs.drop p).take m) := by
  rcases h with ⟨rfl, _⟩ | ⟨hne, b, off, c, hv, hl, hmx, hc⟩
  · simp at hp
    omega
  · cases hv
    have hlen : ((xs.drop p).take m).length = m := by simp; omega
    refine ⟨b, off, rfl, .inr ⟨?_, b, off + p, cap - p, by rw [hlen], by rw [hlen]; omega, by omega, fun i hi => ?_⟩⟩
    · intro e
      rw [e] at hlen
      simp at hlen
      omega
    · rw [hlen] at hi
      have := hc (p + i) (by omega)
      rw [← Nat.add_assoc] at this
      rw [this]
      congr 2
      simp [hi]

set_option maxHeartbeats 1000000 in
theorem Blk.vecs {w : World} {b : Nat} {a : Nat → Int} {t : TypeId} (h : Blk w b #[.int .i32 (a 0), .int .i32 (a 1), .int .i32 (a 2), .int .i32 (a 3)] t) : w.cell? ⟨b, 0, none⟩ = some (.int .i32 (a 0)) ∧ w.cell? ⟨b, 1, none⟩ = some (.int .i32 (a 1)) ∧ w.cell? ⟨b, 2, none⟩ = some (.int .i32 (a 2)) ∧ w.cell? ⟨b, 3, none⟩ = some (.int .i32 (a 3)) := ⟨h.cell rfl, h.cell rfl, h.cell rfl, h.cell rfl⟩
theorem Blk.put4 {w : World} {b : Nat} {o0 o1 o2 o3 : Value} {t : TypeId} (h : Blk w b #[o0, o1, o2, o3] t) (a0 a1 a2 a3 : Value) :
    Blk ((((w.setCell ⟨b, 0, none⟩ a0).setCell ⟨b, 1, none⟩ a1).setCell ⟨b, 2, none⟩ a2).setCell ⟨b, 3, none⟩ a3) b #[a0, a1, a2, a3] t := by
  have h1 := (((h.set 0 a0).set 1 a1).set 2 a2).set 3 a3
  simpa using h1
theorem grown_put4 (w : World) (b : Nat) (a0 a1 a2 a3 : Value) : w.grownBy ((((w.setCell ⟨b, 0, none⟩ a0).setCell ⟨b, 1, none⟩ a1).setCell ⟨b, 2, none⟩ a2).setCell ⟨b, 3, none⟩ a3) (some b) :=
  (((grownBy_set _ _ _ _).trans (grownBy_set _ _ _ _)).trans (grownBy_set _ _ _ _)).trans (grownBy_set _ _ _ _)
theorem ext_put4 {w w1 : World} {b : Nat} {a0 a1 a2 a3 : Value} (h : Ext w w1) (hb : w.heap.size ≤ b) : Ext w ((((w1.setCell ⟨b, 0, none⟩ a0).setCell ⟨b, 1, none⟩ a1).setCell ⟨b, 2, none⟩ a2).setCell ⟨b, 3, none⟩ a3) :=
  below_grown h (grown_put4 _ _ _ _ _ _) h.size hb

set_option maxRecDepth 10000 in
set_option maxHeartbeats 4000000 in
theorem scol_any {w : World} {I : Img} {W H : Int} {bs : List Int} (hl : LvOk I (W, H, bs)) (hb : Byt bs) (ao : Option Addr) (n cap : Nat) (bo : Option Addr) (bcap : Nat) (hr : Row .u8 w (.slice bo bs.length bcap) bs) (i j : Int) :
    Calls Tryz.prog 172 #[.agg #[.int .i64 I.f, .slice ao n cap, .int .i64 I.ws, .int .i64 I.wt, .int .i64 I.mn, .int .i64 I.mg], .agg #[.int .i64 W, .int .i64 H, .slice bo bs.length bcap], .int .i64 i, .int .i64 j] w fun e w' => e = .returned (.agg #[.int .i32 ((txI I (W, H, bs) i j) 0), .int .i32 ((txI I (W, H, bs) i j) 1), .int .i32 ((txI I (W, H, bs) i j) 2), .int .i32 ((txI I (W, H, bs) i j) 3)]) ∧ Ext w w' := by
  obtain ⟨z1, z2, z3, z4, z5⟩ := hl.siz
  have hW : 1 ≤ W ∧ W ≤ 64 := hl.w
  have hH : 1 ≤ H ∧ H ≤ 64 := hl.h
  have hn : (bs.length : Int) = W * H * sizI I.f := hl.n
  have hy := wrapI_bd (m := I.wt) (i := j) hH.1 hH.2
  have hx := wrapI_bd (m := I.ws) (i := i) hW.1 hW.2
  have hP := plN_eq (ws := I.ws) (wt := I.wt) (i := i) (j := j) hW hH
  have hPl := plN_lt (ws := I.ws) (wt := I.wt) (i := i) (j := j) hW hH
  have HT : Hid (txI I (W, H, bs) i j = colN I.f.toNat (numOf (cellL (siz I.f.toNat) bs (plN W H I.ws I.wt i j)))) := by
    show _ = _
    unfold txI
    rw [z1]
  have hs4 : 1 ≤ siz I.f.toNat ∧ siz I.f.toNat ≤ 4 := by rcases siz_three z2 z3 with h | h | h <;> omega
  have HS := hide (show siz I.f.toNat = siz I.f.toNat from rfl)
  generalize plN W H I.ws I.wt i j = P at *
  rw [z4] at hn
  obtain ⟨s, hs⟩ : ∃ s, s = siz I.f.toNat := ⟨_, rfl⟩
  rw [← hs] at hs4 hn HT z4
  have hPs : (P + 1) * s ≤ bs.length := by
    have h1 : ((P : Int) + 1) * (s : Int) ≤ W * H * (s : Int) := Int.mul_le_mul_of_nonneg_right hPl (by omega)
    rw [← hn] at h1
    have h2 : (((P + 1) * s : Nat) : Int) = ((P : Int) + 1) * (s : Int) := by simp
    omega
  have hPs2 : (P + 1) * s = P * s + s := Nat.succ_mul _ _
  obtain ⟨_, _, _, _, hlc, hcm⟩ := hr.shape
  have hbc : bs.length ≤ bcap ∧ bcap ≤ maxLen := by
    obtain ⟨_, _, e9, _, h8, h9⟩ := hr.shape
    cases e9
    exact ⟨h8, h9⟩
  have hbm : bs.length ≤ 16384 := by
    have h1 := mul_side hW hH (s := (s : Int)) (by omega)
    omega
  obtain ⟨b, off, rfl, hpart⟩ := hr.part (P * s) s (by omega) (by omega)
  have hlen : (cellL s bs P).length = s := cellL_len hPs
  have HU : Hid (∀ wx, Ext w wx → Calls Tryz.prog 196 #[.int .i64 I.f, .slice (some ⟨b, off + P * s, none⟩) s (bcap - P * s)] wx fun e w' => e = .returned (.tuple #[.agg #[.int .i32 ((txI I (W, H, bs) i j) 0), .int .i32 ((txI I (W, H, bs) i j) 1), .int .i32 ((txI I (W, H, bs) i j) 2), .int .i32 ((txI I (W, H, bs) i j) 3)], .int .i64 0]) ∧ Ext wx w') := fun wx hx => by
    have h9 := unpack_any I.f.toNat (some ⟨b, off + P * s, none⟩) (bcap - P * s) (cellL s bs P) wx z2 z3 (by rw [hlen]; exact hpart.ext hx) (hb.cut _ _) (by rw [hlen]; exact hs)
    rw [hlen, z5] at h9
    rw [unhide HT]
    exact h9
  clear hpart hlen HT hr hb hs HS hPl hn z1 z5
  have HP := hide hP
  have e1 : IntKind.i64.wrap (wrapI I.wt j H * W) = wrapI I.wt j H * W := by
    have h1 : 0 ≤ wrapI I.wt j H * W := Int.mul_nonneg hy.1 (by omega)
    have h2 : wrapI I.wt j H * W ≤ (P : Int) := by omega
    have h3 : P ≤ P * s := Nat.le_mul_of_pos_right _ (by omega)
    simp [IntKind.wrap, IntKind.bits, IntKind.signed]
    omega
  have e2 : IntKind.i64.wrap (wrapI I.wt j H * W + wrapI I.ws i W) = (P : Int) := by
    have h3 : P ≤ P * s := Nat.le_mul_of_pos_right _ (by omega)
    rw [← hP]
    simp [IntKind.wrap, IntKind.bits, IntKind.signed]
    omega
  have e4 : (P : Int) * (s : Int) = ((P * s : Nat) : Int) := by simp
  generalize P * s = Q at *
  have e3 : IntKind.i64.wrap ((P : Int) * (s : Int)) = (Q : Int) := by
    rw [e4]
    simp [IntKind.wrap, IntKind.bits, IntKind.signed]
    omega
  clear e4
  clear hP hy hx
  have hX1 := (((Ext.refl w).alloc (.cells #[.int .i64 I.f, .slice ao n cap, .int .i64 I.ws, .int .i64 I.wt, .int .i64 I.mn, .int .i64 I.mg] 112)).alloc (.cells #[.int .i64 W, .int .i64 H, .slice (some ⟨b, off, none⟩) bs.length bcap] 156)).alloc (.cells #[.int .i32 0, .int .i32 0, .int .i32 0, .int .i32 0] 28)
  have hB1 : Blk (((w.alloc (.cells #[.int .i64 I.f, .slice ao n cap, .int .i64 I.ws, .int .i64 I.wt, .int .i64 I.mn, .int .i64 I.mg] 112)).alloc (.cells #[.int .i64 W, .int .i64 H, .slice (some ⟨b, off, none⟩) bs.length bcap] 156)).alloc (.cells #[.int .i32 0, .int .i32 0, .int .i32 0, .int .i32 0] 28)) w.heap.size #[.int .i64 I.f, .slice ao n cap, .int .i64 I.ws, .int .i64 I.wt, .int .i64 I.mn, .int .i64 I.mg] 112 := ((Blk.new _ _ _).alloc _).alloc _
  have hL1 : Blk (((w.alloc (.cells #[.int .i64 I.f, .slice ao n cap, .int .i64 I.ws, .int .i64 I.wt, .int .i64 I.mn, .int .i64 I.mg] 112)).alloc (.cells #[.int .i64 W, .int .i64 H, .slice (some ⟨b, off, none⟩) bs.length bcap] 156)).alloc (.cells #[.int .i32 0, .int .i32 0, .int .i32 0, .int .i32 0] 28)) (w.heap.size + 1) #[.int .i64 W, .int .i64 H, .slice (some ⟨b, off, none⟩) bs.length bcap] 156 := Blk.alloc (Blk.at (by simp)) _
  have hR1 : Blk (((w.alloc (.cells #[.int .i64 I.f, .slice ao n cap, .int .i64 I.ws, .int .i64 I.wt, .int .i64 I.mn, .int .i64 I.mg] 112)).alloc (.cells #[.int .i64 W, .int .i64 H, .slice (some ⟨b, off, none⟩) bs.length bcap] 156)).alloc (.cells #[.int .i32 0, .int .i32 0, .int .i32 0, .int .i32 0] 28)) (w.heap.size + 2) #[.int .i32 0, .int .i32 0, .int .i32 0, .int .i32 0] 28 := Blk.at (by simp)
  have H1 := hide (And.intro hX1 (And.intro hB1 (And.intro hL1 hR1)))
  clear hX1 hB1 hL1 hR1
  have HSZ : Hid (∀ wx, Calls Tryz.prog 163 #[.int .i64 I.f] wx fun e w' => e = .returned (.int .i64 (s : Int)) ∧ Ext wx w') := fun wx => by rw [← z4]; exact size_any I.f wx
  clear z4
  go_enter Tryz.func172, Tryz.ntmps172
  go_wp2_with fail
  refine (unhide HSZ _).mono ?_
  rintro e w2 ⟨rfl, hx2⟩
  have H2 := hide (And.intro ((unhide H1).1.trans hx2) (And.intro ((unhide H1).2.1.ext hx2) (And.intro ((unhide H1).2.2.1.ext hx2) ((unhide H1).2.2.2.ext hx2))))
  clear H1 hx2
  obtain ⟨q0, q1, q2, q3, q4, q5⟩ := (unhide H2).2.1.six
  obtain ⟨l0, l1, l2⟩ := (unhide H2).2.2.1.three
  go_upto_region 2 with fail
  go_quiet (first | (go_at_call 195; refine Calls.quiet_of_same (wrap_any _ _ _ _)))
  go_upto_region 3 with fail
  have H3 := hide (And.intro ((unhide H2).1.drewN nq) (And.intro ((unhide H2).2.1.drewN nq) (And.intro ((unhide H2).2.2.1.drewN nq) ((unhide H2).2.2.2.drewN nq))))
  clear q0 q1 q2 q3 q4 q5 l0 l1 l2 H2
  generalize w2.drewN nq = w3 at H3 ⊢
  have HCL : Hid (∀ wx, Ext w3 wx → wx.cell? ⟨w.heap.size, 0, none⟩ = some (.int .i64 I.f) ∧ wx.cell? ⟨w.heap.size + 1, 2, none⟩ = some (.slice (some ⟨b, off, none⟩) bs.length bcap)) := fun wx hx => ⟨((unhide H3).2.1.ext hx).six.1, ((unhide H3).2.2.1.ext hx).three.2.2⟩
  have HU2 : Hid (∀ wx, Ext w3 wx → Calls Tryz.prog 196 #[.int .i64 I.f, .slice (some ⟨b, off + Q, none⟩) s (bcap - Q)] wx fun e w' => e = .returned (.tuple #[.agg #[.int .i32 ((txI I (W, H, bs) i j) 0), .int .i32 ((txI I (W, H, bs) i j) 1), .int .i32 ((txI I (W, H, bs) i j) 2), .int .i32 ((txI I (W, H, bs) i j) 3)], .int .i64 0]) ∧ Ext wx w') := fun wx hx => unhide HU wx ((unhide H3).1.trans hx)
  clear HU e1 e2 e3
  have g1 : Q + s ≤ bs.length := by omega
  have g2 : IntKind.i64.wrap ((Q : Int) + (s : Int)) = (Q : Int) + (s : Int) := by
    simp [IntKind.wrap, IntKind.bits, IntKind.signed]
    omega
  have g3 : (Q : Int) + (s : Int) ≤ (bcap : Int) := by omega
  have g4 : (Q : Int) ≤ (Q : Int) + (s : Int) := by omega
  have g5 : ¬ bcap = Q := by omega
  have g6 : ((Q : Int) + (s : Int)).toNat = Q + s := by omega
  have g7 : bcap ≤ 9223372036854775807 := by
    have h9 := hbc.2
    unfold maxLen at h9
    omega
  have g8 : (0 : Int) ≤ (Q : Int) + (s : Int) := by omega
  go_cut [11] (fun p wc => ∃ r, p = .pointer (some ⟨r, 0, none⟩) ∧ Blk wc r #[.int .i32 ((txI I (W, H, bs) i j) 0), .int .i32 ((txI I (W, H, bs) i j) 1), .int .i32 ((txI I (W, H, bs) i j) 2), .int .i32 ((txI I (W, H, bs) i j) 3)] 28 ∧ Ext w3 wc)
  case first =>
    go_region_held3 (fun w' => w'.cell? ⟨w.heap.size, 0, none⟩ = some (.int .i64 I.f) ∧ w'.cell? ⟨w.heap.size + 1, 2, none⟩ = some (.slice (some ⟨b, off, none⟩) bs.length bcap))
      (first | with_reducible exact unhide HCL _ bx | with_reducible exact unhide HCL _ (bx.alloc _) | with_reducible exact unhide HCL _ (ext_0 w3) | with_reducible exact unhide HCL _ (ext_1 w3 _) | with_reducible exact unhide HCL _ (ext_put4 bx (by omega)))
      (first
        | (go_at_call 196; refine (unhide HU2 _ (by first | with_reducible exact ext_0 w3 | with_reducible exact ext_1 w3 _)).mono ?_; rintro e ws ⟨rfl, hxs⟩; have bx : Ext w3 ws := (by first | with_reducible exact (ext_0 w3).trans hxs | exact (ext_1 w3 _).trans hxs); have szs := bx.size; (first | (have RB := hide (blk_1 w3 _ _ hxs); obtain ⟨r0, r1, r2, r3⟩ := (unhide RB).four; obtain ⟨z0, z1, z2, z3, _⟩ := (unhide RB).frees) | skip)))
    all_goals go_wp2
    all_goals go_meet
    all_goals
      refine ⟨_, rfl, ?gb, ?gx⟩
      case gb => first | (with_reducible exact Blk.new _ _ _) | (with_reducible exact (unhide RB).put4 _ _ _ _)
      case gx => first | (with_reducible exact bx.alloc _) | (with_reducible exact ext_put4 bx (by omega))
  case rest =>
  obtain ⟨r, rfl, hV, hx3⟩ := hcut
  rename_i wc
  obtain ⟨v0, v1, v2, v3⟩ := hV.vecs
  have hR := (unhide H3).2.2.2.ext hx3
  obtain ⟨r0, r1, r2, r3⟩ := hR.four
  obtain ⟨f0, f1, f2, f3, _⟩ := hR.frees
  have hR2 := hR.put4 (.int .i32 (txI I (W, H, bs) i j 0)) (.int .i32 (txI I (W, H, bs) i j 1)) (.int .i32 (txI I (W, H, bs) i j 2)) (.int .i32 (txI I (W, H, bs) i j 3))
  have hX := ext_put4 (b := w.heap.size + 2) (a0 := .int .i32 (txI I (W, H, bs) i j 0)) (a1 := .int .i32 (txI I (W, H, bs) i j 1)) (a2 := .int .i32 (txI I (W, H, bs) i j 2)) (a3 := .int .i32 (txI I (W, H, bs) i j 3)) ((unhide H3).1.trans hx3) (by omega)
  have H9 := hide (And.intro hR2 hX)
  clear hV hR hR2 hX hx3 HCL HU2
  go_wp2
  obtain ⟨t0, t1, t2, t3⟩ := (unhide H9).1.four
  refine bodyPost_ret (v := .agg #[.int .i32 ((txI I (W, H, bs) i j) 0), .int .i32 ((txI I (W, H, bs) i j) 1), .int .i32 ((txI I (W, H, bs) i j) 2), .int .i32 ((txI I (W, H, bs) i j) 3)]) (by simp [results, Tryz.results172, go_sem, t0, t1, t2, t3]) rfl ⟨rfl, (unhide H9).2⟩
end Go.Proofs.YtglfhmlcmffoaaaGreat

/-
  Colours: the walk of blend.
-/
namespace Go.Proofs.YtglfhmlcmffoaaaGreat
open Go.RowKit
set_option linter.unusedVariables false
set_option linter.unusedSimpArgs false

/-- The four shares. -/
def shr4 (f g : Int) : Nat → Int
  | 0 => (65536 - f) * (65536 - g)
  | 1 => f * (65536 - g)
  | 2 => (65536 - f) * g
  | _ => f * g
/-- The sum, as far as it has come. -/
def psI (A S : Nat → Int) (c : Nat) : Nat → Int
  | 0 => 2147483648
  | j + 1 => psI A S c j + A (j * 4 + c) * S j
def linV (A : Nat → Int) (f g : Int) : Nat → Int := fun k => linI (A k) (A (4 + k)) (A (8 + k)) (A (12 + k)) f g
theorem shr_bd {f g : Int} (hf : 0 ≤ f ∧ f < 65536) (hg : 0 ≤ g ∧ g < 65536) (j : Nat) : 0 ≤ shr4 f g j ∧ shr4 f g j ≤ 4294967296 := by
  obtain ⟨a, b, c, d⟩ := shares hf hg
  have e := sh_sum f g
  rcases j with _ | _ | _ | j
  · show 0 ≤ (65536 - f) * (65536 - g) ∧ (65536 - f) * (65536 - g) ≤ _
    omega
  · show 0 ≤ f * (65536 - g) ∧ f * (65536 - g) ≤ _
    omega
  · show 0 ≤ (65536 - f) * g ∧ (65536 - f) * g ≤ _
    omega
  · show 0 ≤ f * g ∧ f * g ≤ _
    omega
theorem term_bd {a s : Int} (ha : 0 ≤ a ∧ a ≤ 65536) (hs : 0 ≤ s ∧ s ≤ 4294967296) : 0 ≤ a * s ∧ a * s ≤ 281474976710656 := by
  refine ⟨Int.mul_nonneg ha.1 hs.1, ?_⟩
  have := Int.mul_le_mul ha.2 hs.2 hs.1 (by omega)
  omega
theorem ps_bd {A S : Nat → Int} {c : Nat} (hc : c < 4) (hA : ∀ i, i < 16 → 0 ≤ A i ∧ A i ≤ 65536) (hS : ∀ j, 0 ≤ S j ∧ S j ≤ 4294967296) : ∀ j, j ≤ 4 → 0 ≤ psI A S c j ∧ psI A S c j ≤ 2147483648 + j * 281474976710656
  | 0, _ => by simp [psI]
  | j + 1, h => by
    have ih := ps_bd hc hA hS j (by omega)
    have t := term_bd (hA (j * 4 + c) (by omega)) (hS j)
    show 0 ≤ psI A S c j + A (j * 4 + c) * S j ∧ psI A S c j + A (j * 4 + c) * S j ≤ _
    omega
theorem ps_end (A : Nat → Int) (f g : Int) (c : Nat) : psI A (shr4 f g) c 4 / 4294967296 = linV A f g c := by
  unfold linV linI shS
  simp only [psI, shr4]
  congr 1
  simp only [Nat.zero_mul, Nat.zero_add, Nat.one_mul, Nat.reduceMul]
  omega
/-- Sixteen cells. -/
def six4 (A : Nat → Int) : Array Value := #[.int .i32 (A 0), .int .i32 (A 1), .int .i32 (A 2), .int .i32 (A 3), .int .i32 (A 4), .int .i32 (A 5), .int .i32 (A 6), .int .i32 (A 7), .int .i32 (A 8), .int .i32 (A 9), .int .i32 (A 10), .int .i32 (A 11), .int .i32 (A 12), .int .i32 (A 13), .int .i32 (A 14), .int .i32 (A 15)]
theorem Blk.six4 {w : World} {b : Nat} {A : Nat → Int} {t : TypeId} (h : Blk w b (six4 A) t) (k : Nat) (hk : k < 16) : w.cell? ⟨b, k, none⟩ = some (.int .i32 (A k)) := by
  refine h.cell ?_
  rcases (by omega : k = 0 ∨ k = 1 ∨ k = 2 ∨ k = 3 ∨ k = 4 ∨ k = 5 ∨ k = 6 ∨ k = 7 ∨ k = 8 ∨ k = 9 ∨ k = 10 ∨ k = 11 ∨ k = 12 ∨ k = 13 ∨ k = 14 ∨ k = 15) with rfl | rfl | rfl | rfl | rfl | rfl | rfl | rfl | rfl | rfl | rfl | rfl | rfl | rfl | rfl | rfl <;> rfl
def l64 (S : Nat → Int) : Array Value := #[.int .i64 (S 0), .int .i64 (S 1), .int .i64 (S 2), .int .i64 (S 3)]
theorem Blk.l64 {w : World} {b : Nat} {S : Nat → Int} {t : TypeId} (h : Blk w b (l64 S) t) (k : Nat) (hk : k < 4) : w.cell? ⟨b, k, none⟩ = some (.int .i64 (S k)) := by
  refine h.cell ?_
  rcases (by omega : k = 0 ∨ k = 1 ∨ k = 2 ∨ k = 3) with rfl | rfl | rfl | rfl <;> rfl
/-- The colour, as far as it has come. -/
def upTo (V : Nat → Int) (k : Nat) : Nat → Int := fun i => if i < k then V i else 0
theorem upTo_set (V : Nat → Int) (k : Nat) (hk : k < 4) : (#[.int .i32 ((upTo V k) 0), .int .i32 ((upTo V k) 1), .int .i32 ((upTo V k) 2), .int .i32 ((upTo V k) 3)] : Array Value).setIfInBounds k (.int .i32 (V k)) = #[.int .i32 ((upTo V (k + 1)) 0), .int .i32 ((upTo V (k + 1)) 1), .int .i32 ((upTo V (k + 1)) 2), .int .i32 ((upTo V (k + 1)) 3)] := by
  rcases (by omega : k = 0 ∨ k = 1 ∨ k = 2 ∨ k = 3) with rfl | rfl | rfl | rfl <;> rfl
structure BlS (w wr : World) (A : Nat → Int) (S V : Nat → Int) (k : Nat) : Prop where
  four : Blk wr w.heap.size (six4 A) 163
  res : Blk wr (w.heap.size + 1) #[.int .i32 0, .int .i32 0, .int .i32 0, .int .i32 0] 28
  sh : Blk wr (w.heap.size + 2) (l64 S) 166
  col : Blk wr (w.heap.size + 3) #[.int .i32 ((upTo V k) 0), .int .i32 ((upTo V k) 1), .int .i32 ((upTo V k) 2), .int .i32 ((upTo V k) 3)] 28
  ext : Ext w wr
theorem BlS.later {w wr w' : World} {A S V : Nat → Int} {k : Nat} (h : BlS w wr A S V k) (hx : Ext wr w') : BlS w w' A S V k := ⟨h.four.ext hx, h.res.ext hx, h.sh.ext hx, h.col.ext hx, h.ext.trans hx⟩
theorem BlS.put {w wr : World} {A S V : Nat → Int} {k : Nat} (h : BlS w wr A S V k) (hk : k < 4) : BlS w (wr.setCell ⟨w.heap.size + 3, k, none⟩ (.int .i32 (V k))) A S V (k + 1) := by
  refine ⟨h.four.other _ _ (by omega), h.res.other _ _ (by omega), h.sh.other _ _ (by omega), ?_, below_grown h.ext (grownBy_set _ _ _ _) h.ext.size (by omega)⟩
  have := h.col.set k (.int .i32 (V k))
  rw [upTo_set V k hk] at this
  exact this

set_option maxRecDepth 10000 in
set_option maxHeartbeats 4000000 in
theorem blend_any (A : Nat → Int) (f g : Int) (w : World) (hA : ∀ i, i < 16 → 0 ≤ A i ∧ A i ≤ 65536) (hf : 0 ≤ f ∧ f < 65536) (hg : 0 ≤ g ∧ g < 65536) :
    Calls Tryz.prog 173 #[.agg (six4 A), .int .i64 f, .int .i64 g] w fun e w' => e = .returned (.agg #[.int .i32 ((linV A f g) 0), .int .i32 ((linV A f g) 1), .int .i32 ((linV A f g) 2), .int .i32 ((linV A f g) 3)]) ∧ Ext w w' := by
  obtain ⟨a1, a2, a3, a4⟩ := shares hf hg
  have e9 := sh_sum f g
  have b1 := shr_bd hf hg 0
  have b2 := shr_bd hf hg 1
  have b3 := shr_bd hf hg 2
  have b4 := shr_bd hf hg 3
  simp only [shr4] at b1 b2 b3 b4
  have HS : Hid (∀ j, 0 ≤ shr4 f g j ∧ shr4 f g j ≤ 4294967296) := shr_bd hf hg
  have HA := hide hA
  have HE : Hid (∀ c, psI A (shr4 f g) c 4 / 4294967296 = linV A f g c) := ps_end A f g
  have H0 : Hid (BlS w ((((w.alloc (.cells #[.int .i32 (A 0), .int .i32 (A 1), .int .i32 (A 2), .int .i32 (A 3), .int .i32 (A 4), .int .i32 (A 5), .int .i32 (A 6), .int .i32 (A 7), .int .i32 (A 8), .int .i32 (A 9), .int .i32 (A 10), .int .i32 (A 11), .int .i32 (A 12), .int .i32 (A 13), .int .i32 (A 14), .int .i32 (A 15)] 163)).alloc (.cells #[.int .i32 0, .int .i32 0, .int .i32 0, .int .i32 0] 28)).alloc (.cells #[.int .i64 ((65536 - f) * (65536 - g)), .int .i64 (f * (65536 - g)), .int .i64 ((65536 - f) * g), .int .i64 (f * g)] 166)).alloc (.cells #[.int .i32 0, .int .i32 0, .int .i32 0, .int .i32 0] 28)) A (shr4 f g) (linV A f g) 0) :=
    ⟨(((Blk.new w #[.int .i32 (A 0), .int .i32 (A 1), .int .i32 (A 2), .int .i32 (A 3), .int .i32 (A 4), .int .i32 (A 5), .int .i32 (A 6), .int .i32 (A 7), .int .i32 (A 8), .int .i32 (A 9), .int .i32 (A 10), .int .i32 (A 11), .int .i32 (A 12), .int .i32 (A 13), .int .i32 (A 14), .int .i32 (A 15)] 163).alloc _).alloc _).alloc _, (Blk.alloc (Blk.at (by simp)) _).alloc _, Blk.alloc (Blk.at (cs := #[.int .i64 ((65536 - f) * (65536 - g)), .int .i64 (f * (65536 - g)), .int .i64 ((65536 - f) * g), .int .i64 (f * g)]) (by simp)) _, Blk.at (by simp), (((Ext.refl w).alloc _).alloc _).alloc _ |>.alloc _⟩
  obtain ⟨f1, f2⟩ := hf
  obtain ⟨g1, g2⟩ := hg
  clear hA
  unfold six4
  go_enter Tryz.func173, Tryz.ntmps173
  go_upto_region 3 with fail
  generalize (((w.alloc (.cells #[.int .i32 (A 0), .int .i32 (A 1), .int .i32 (A 2), .int .i32 (A 3), .int .i32 (A 4), .int .i32 (A 5), .int .i32 (A 6), .int .i32 (A 7), .int .i32 (A 8), .int .i32 (A 9), .int .i32 (A 10), .int .i32 (A 11), .int .i32 (A 12), .int .i32 (A 13), .int .i32 (A 14), .int .i32 (A 15)] 163)).alloc (.cells #[.int .i32 0, .int .i32 0, .int .i32 0, .int .i32 0] 28)).alloc (.cells #[.int .i64 ((65536 - f) * (65536 - g)), .int .i64 (f * (65536 - g)), .int .i64 ((65536 - f) * g), .int .i64 (f * g)] 166)).alloc (.cells #[.int .i32 0, .int .i32 0, .int .i32 0, .int .i32 0] 28) = w1 at H0 ⊢
  clear a1 a2 a3 a4 e9 b1 b2 b3 b4 f1 f2 g1 g2
  generalize shr4 f g = S at *
  obtain ⟨V, hV⟩ : ∃ V, V = linV A f g := ⟨_, rfl⟩
  have HVE := hide hV
  rw [← hV] at HE H0
  clear hV
  go_wp2_with fail
  go_loopw [29] (fun iv wr => ∃ k : Nat, k ≤ 4 ∧ iv = .int .i64 (k : Int) ∧ BlS w wr A S V k) (fun iv _ => 4 - (intOf iv).toNat)
  case atStart => exact ⟨0, by omega, rfl, unhide H0⟩
  case round =>
    clear H0
    obtain ⟨k, hk, rfl, hI⟩ := hrel
    have HI := hide hI
    clear hI
    by_cases hlt : k < 4
    · have hkn : (k : Int) < 4 := by omega
      go_wp2_with fail
      go_loopw [10, 32] (fun sv jv wx => ∃ j : Nat, j ≤ 4 ∧ jv = .int .i64 (j : Int) ∧ sv = .int .i64 (psI A S k j) ∧ Ext wr wx) (fun _ jv _ => 4 - (intOf jv).toNat)
      case atStart => exact ⟨0, by omega, rfl, rfl, Ext.refl _⟩
      case round =>
        obtain ⟨j, hj, rfl, rfl, hx⟩ := hrel
        have HX := hide hx
        clear hx
        by_cases hjl : j < 4
        · have hjn : (j : Int) < 4 := by omega
          have hI := (unhide HI).later (unhide HX)
          have c0 := hI.four.six4 (j * 4 + k) (by omega)
          have c1 := hI.sh.l64 j hjl
          have p1 := ps_bd hlt (unhide HA) (unhide HS) j (by omega)
          have p2 := term_bd (unhide HA (j * 4 + k) (by omega)) (unhide HS j)
          have p3 := unhide HA (j * 4 + k) (by omega)
          have p4 := unhide HS j
          have HP := hide (show psI A S k (j + 1) = psI A S k j + A (j * 4 + k) * S j from rfl)
          generalize psI A S k j = P at *
          generalize A (j * 4 + k) = a at *
          generalize S j = sj at *
          have g1 : IntKind.i64.wrap (a * sj) = a * sj := by simp [IntKind.wrap, IntKind.bits, IntKind.signed]; omega
          have g2 : IntKind.i64.wrap (P + a * sj) = P + a * sj := by simp [IntKind.wrap, IntKind.bits, IntKind.signed]; omega
          have g3 : IntKind.i64.wrap a = a := by simp [IntKind.wrap, IntKind.bits, IntKind.signed]; omega
          clear hI
          go_upto_region 10 with fail
          go_quiet (fail)
          go_wp2
          go_roundw
          case rel => exact ⟨j + 1, by omega, by go_num, by rw [unhide HP], (unhide HX).trans ((Ext.refl _).drewN _)⟩
          case measure => simp [intOf]; omega
        · have hjn : ¬ (j : Int) < 4 := by omega
          obtain rfl : j = 4 := by omega
          have hI := (unhide HI).later (unhide HX)
          have p1 := ps_bd hlt (unhide HA) (unhide HS) 4 (by omega)
          have HV : Hid (rawI (psI A S k 4 / 4294967296) = V k) := by
            show _ = _
            rw [← unhide HE k]
            exact rawI_id ⟨by omega, by omega⟩
          have H9 := hide (hI.put hlt)
          have c0 := hI.col.free k
          have c1 := hI.col.vec k hlt
          generalize psI A S k 4 = P at *
          clear hI
          go_wp2_with fail
          refine (raw_any _ _).mono ?_
          rintro e w5 ⟨rfl, rfl⟩
          rw [unhide HV]
          go_wp2
          go_roundw
          case rel => exact ⟨k + 1, by omega, by go_num, unhide H9⟩
          case measure => simp [intOf]; omega
    · have hkn : ¬ (k : Int) < 4 := by omega
      obtain rfl : k = 4 := by omega
      have hI := unhide HI
      obtain ⟨v0, v1, v2, v3⟩ := hI.col.vecs
      simp only [upTo] at v0 v1 v2 v3
      rw [if_pos (by omega)] at v0 v1 v2 v3
      obtain ⟨r0, r1, r2, r3⟩ := hI.res.four
      obtain ⟨f0, f1, f2, f3, _⟩ := hI.res.frees
      have hR2 := hI.res.put4 (.int .i32 (V 0)) (.int .i32 (V 1)) (.int .i32 (V 2)) (.int .i32 (V 3))
      have hX := ext_put4 (b := w.heap.size + 1) (a0 := .int .i32 (V 0)) (a1 := .int .i32 (V 1)) (a2 := .int .i32 (V 2)) (a3 := .int .i32 (V 3)) hI.ext (by omega)
      have H9 := hide (And.intro hR2 hX)
      clear hI hR2 hX
      go_wp2
      obtain ⟨t0, t1, t2, t3⟩ := (unhide H9).1.four
      refine bodyPost_ret (v := .agg #[.int .i32 (V 0), .int .i32 (V 1), .int .i32 (V 2), .int .i32 (V 3)]) (by simp [results, Tryz.results173, go_sem, t0, t1, t2, t3]) rfl ⟨by rw [unhide HVE], (unhide H9).2⟩
end Go.Proofs.YtglfhmlcmffoaaaGreat
