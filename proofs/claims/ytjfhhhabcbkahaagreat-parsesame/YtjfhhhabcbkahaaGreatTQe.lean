/-
  Rules: expressions.
-/
import Derived.Test.YtjfhhhabcbkahaaGreatTP
namespace Go.Proofs.YtjfhhhabcbkahaaGreat
open Go.RowKit
set_option linter.unusedVariables false
set_option linter.unusedSimpArgs false
section
variable {w : World} {pb : Nat} {L : List Tok} {tv lv : Value} {i : Nat}

set_option maxHeartbeats 2000000 in
set_option maxRecDepth 100000 in
theorem expr_step {rec : Nat → Nat → Rp} {f : Nat} (H : Ctr pb L tv lv rec f) (HV : AdvA L rec) (hm : 20 * (L.length - i) + 12 ≤ f + 1) (h : PE w pb L tv lv i) (hi : i ≤ L.length) (hL : L.length ≤ 100000000) :
    Calls Tryz.prog 98 #[.pointer (some ⟨pb, 0, none⟩)] w (RQ w pb L tv lv w.heap.size (exprP L rec i)) := by
  have HH := hide H
  have HVV := hide HV
  clear H HV
  have HP := hide h
  have hpb := h.lt
  obtain ⟨R, hR⟩ : ∃ R, exprP L rec i = R := ⟨_, rfl⟩
  rw [hR]
  unfold exprP at hR
  have HQ := hide hR
  have HS0 := hide (St.of h (Ext.refl w))
  have hmf : ∀ (fn : Fn) (first cap : Array Value) (w : World), (Instr.makeFunc fn first cap).run Tryz.prog w = .ok (.func fn first cap) w := fun _ _ _ _ => rfl
  have g0 := fld0
  have g1 := fld1
  have g2 := fld2
  clear hR h
  go_enter Tryz.func98, Tryz.ntmps98
  obtain ⟨⟨j1, o1⟩, hR1⟩ : ∃ r : Rp, rec 1 (i) = r := ⟨_, rfl⟩
  have ha1 := unhide HVV 1 (i) (by omega)
  have HC1 := hide (unhide HH 1 (i) w (by decide) (show 20 * (L.length - (i)) + 11 ≤ f by omega) (by omega) (unhide HS0).pe)
  rw [hR1] at ha1 HC1 HQ
  clear hR1
  cases o1 with
  | none =>
    have HQn : Hid (R = (j1, none)) := (unhide HQ).symm
    go_wp2_with fail
    refine (unhide HC1).mono ?_
    rintro e w1 ⟨hs, rfl⟩
    have HSn := hide ((unhide HS0).trans hs)
    clear hs
    go_wp2
    exact ⟨rfl, RQ.pan (unhide HSn) (unhide HQn)⟩
  | some x1 =>
    have hj1 : i < j1 ∧ j1 ≤ L.length := ⟨ha1.2 rfl, ha1.1.2⟩
    rw [bnd_some (r := (j1, some x1)) rfl] at HQ
    clear ha1
    go_wp2_with fail
    refine (unhide HC1).mono ?_
    rintro e w1 ⟨hs, b1, rfl, hp⟩
    have HS1 := hide ((unhide HS0).trans hs)
    have hz1 : w.heap.size ≤ w1.heap.size := (unhide HS1).out.size
    clear hs HC1
    have P1 := hide hp
    clear hp
    obtain ⟨ty, tx, nm, pl, kv, hB⟩ := (unhide P1).kindC
    have d0 := hB.cell (i := 0) (v := .int .i64 (kindL x1)) rfl
    have d1 := hB.cell (i := 1) (v := .string ⟨ty.toArray⟩) rfl
    have d2 := hB.cell (i := 2) (v := .string ⟨tx.toArray⟩) rfl
    have d3 := hB.cell (i := 3) (v := .int .i32 nm) rfl
    have d4 := hB.cell (i := 4) (v := .slice none 0 0) rfl
    have d5 := hB.cell (i := 5) (v := .int .i64 pl) rfl
    clear hB
    have HC0 := isPlace_any (kindL x1) (.string ⟨ty.toArray⟩) (.string ⟨tx.toArray⟩) (.int .i32 nm) (.slice none 0 0) (.int .i64 pl) w1
    rw [show (decide (kindL x1 = 19) || decide (kindL x1 = 18)) = isPl x1 from rfl] at HC0
    cases hp : isPl x1 with
    | false =>
      rw [hp, Bool.false_and, if_neg (by simp)] at HQ
      rw [hp] at HC0
      clear hp
      have HC2 := hide (HC0)
      go_wp2_with fail
      refine (unhide HC2).mono ?_
      rintro e w2 ⟨rfl, hx⟩
      have HS2 := hide ((unhide HS1).ext hx)
      have hz2 : w.heap.size ≤ w2.heap.size := (unhide HS2).out.size
      have hy2 : w1.heap.size ≤ w2.heap.size := hx.size
      have P12 := hide ((unhide P1).ext hx)
      clear P1
      clear hx HC2
      clear d0 d1 d2 d3 d4 d5
      go_wp2
      go_ret
      exact RQ.ok (unhide HS2) ((unhide P12).wide (by omega) (unhide P12).top (Nat.le_refl _)) ((unhide HQ).symm)
    | true =>
      rw [hp, Bool.true_and] at HQ
      rw [hp] at HC0
      clear hp
      have HC3 := hide (HC0)
      go_wp2_with fail
      refine (unhide HC3).mono ?_
      rintro e w3 ⟨rfl, hx⟩
      have HS3 := hide ((unhide HS1).ext hx)
      have hz3 : w.heap.size ≤ w3.heap.size := (unhide HS3).out.size
      have hy3 : w1.heap.size ≤ w3.heap.size := hx.size
      have P13 := hide ((unhide P1).ext hx)
      clear P1
      clear hx HC3
      clear d0 d1 d2 d3 d4 d5
      by_cases hc0 : asgW.contains (tk L (j1)).text = true
      · rw [if_pos hc0] at HQ
        have hlt := con_lt hc0 (by decide)
        have hc : [[61], [43, 61], [45, 61], [42, 61], [47, 61]].contains (tk L (j1)).text = true := hc0
        clear hc0
        have HC5 := hide (assigning_any w3)
        go_wp2_with fail
        refine (unhide HC5).mono ?_
        rintro e wq ⟨rfl, hwq⟩
        rw [hwq]
        clear hwq HC5
        have HC0 := isOne_at [[61], [43, 61], [45, 61], [42, 61], [47, 61]] #[.string ⟨#[61]⟩, .string ⟨#[43, 61]⟩, .string ⟨#[45, 61]⟩, .string ⟨#[42, 61]⟩, .string ⟨#[47, 61]⟩] rfl (unhide HS3).pe (by simp) (by omega) (by omega)
        rw [hc] at HC0
        have HC6 := hide HC0
        clear HC0 hc
        go_wp2_with fail
        refine (unhide HC6).mono ?_
        rintro e w6 ⟨rfl, hx⟩
        have HS6 := hide ((unhide HS3).ext hx)
        have hz6 : w.heap.size ≤ w6.heap.size := (unhide HS6).out.size
        have hy6 : w3.heap.size ≤ w6.heap.size := hx.size
        have P136 := hide ((unhide P13).ext hx)
        clear P13
        clear hx HC6
        obtain ⟨⟨j7, o7⟩, hR7⟩ : ∃ r : Rp, operP L 13 x1 (rec 0) (j1) = r := ⟨_, rfl⟩
        have ha7 := adv_oper (L := L) (kind := 13) (side := x1) (rule := rec 0) (i := j1) (fun k h1 h2 => unhide HVV 0 k h2) hlt
        have HC7 := hide (operate_any 98 (rec 0) ⟨exprEnters, fun k wk h1 h2 hk => unhide HH 0 k wk (by decide) (show 20 * (L.length - k) + 12 ≤ f by omega) h2 hk, fun k h1 h2 => unhide HVV 0 k h2⟩ 13 ((unhide P136).wide (lo' := w.heap.size) (by omega) (unhide P136).top (Nat.le_refl _)) hpb (by omega) hlt (unhide HS6).pe (by omega) hL)
        rw [hR7] at ha7 HC7 HQ
        clear hR7
        cases o7 with
        | none =>
          have HQn : Hid (R = (j7, none)) := (unhide HQ).symm
          go_wp2_with fail
          refine (unhide HC7).mono ?_
          rintro e w7 ⟨hs, rfl⟩
          have HSn := hide ((unhide HS6).trans hs)
          clear hs
          go_wp2
          exact ⟨rfl, RQ.pan (unhide HSn) (unhide HQn)⟩
        | some x7 =>
          clear ha7
          go_wp2_with fail
          refine (unhide HC7).mono ?_
          rintro e w7 ⟨hs, b7, rfl, hp⟩
          have HS7 := hide ((unhide HS6).trans hs)
          have hz7 : w.heap.size ≤ w7.heap.size := (unhide HS7).out.size
          have hy7 : w6.heap.size ≤ w7.heap.size := hs.out.size
          clear hs HC7
          have P7 := hide hp
          clear hp
          go_wp2
          go_ret
          exact RQ.ok (unhide HS7) ((unhide P7).wide (by omega) (unhide P7).top (Nat.le_refl _)) ((unhide HQ).symm)
      · rw [if_neg hc0] at HQ
        have hc : [[61], [43, 61], [45, 61], [42, 61], [47, 61]].contains (tk L (j1)).text = false := Bool.eq_false_iff.2 hc0
        clear hc0
        have HC8 := hide (assigning_any w3)
        go_wp2_with fail
        refine (unhide HC8).mono ?_
        rintro e wq ⟨rfl, hwq⟩
        rw [hwq]
        clear hwq HC8
        have HC0 := isOne_at [[61], [43, 61], [45, 61], [42, 61], [47, 61]] #[.string ⟨#[61]⟩, .string ⟨#[43, 61]⟩, .string ⟨#[45, 61]⟩, .string ⟨#[42, 61]⟩, .string ⟨#[47, 61]⟩] rfl (unhide HS3).pe (by simp) (by omega) (by omega)
        rw [hc] at HC0
        have HC9 := hide HC0
        clear HC0 hc
        go_wp2_with fail
        refine (unhide HC9).mono ?_
        rintro e w9 ⟨rfl, hx⟩
        have HS9 := hide ((unhide HS3).ext hx)
        have hz9 : w.heap.size ≤ w9.heap.size := (unhide HS9).out.size
        have hy9 : w3.heap.size ≤ w9.heap.size := hx.size
        have P139 := hide ((unhide P13).ext hx)
        clear P13
        clear hx HC9
        go_wp2
        go_ret
        exact RQ.ok (unhide HS9) ((unhide P139).wide (by omega) (unhide P139).top (Nat.le_refl _)) ((unhide HQ).symm)

end
end Go.Proofs.YtjfhhhabcbkahaaGreat
