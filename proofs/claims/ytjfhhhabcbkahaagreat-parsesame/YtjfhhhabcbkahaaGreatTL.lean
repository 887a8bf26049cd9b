/-
  Rules: numbers, the first of an expression, calls, fields.
-/
import Derived.Test.YtjfhhhabcbkahaaGreatTJ
namespace Go.Proofs.YtjfhhhabcbkahaaGreat
open Go.RowKit
set_option linter.unusedVariables false
set_option linter.unusedSimpArgs false

/-- The rules that call one another, as functions. -/
def fnR (r : Nat) : FuncId := match r with | 0 => 98 | 1 => 106 | 2 => 110 | 3 => 53 | 4 => 54 | 5 => 55 | 6 => 56 | 7 => 57 | 8 => 58 | 9 => 76 | 10 => 93 | 11 => 101 | 12 => 97 | 13 => 83 | 14 => 103 | 15 => 104 | _ => 105
def rankR (r : Nat) : Nat := match r with | 0 => 12 | 1 => 11 | 2 => 10 | 3 => 9 | 4 => 8 | 5 => 7 | 6 => 6 | 7 => 5 | 8 => 4 | 9 => 3 | 10 => 2 | 11 => 1 | 12 => 16 | _ => 15
/-- What the rules answer, as long as fuel lasts. -/
def Ctr (pb : Nat) (L : List Tok) (tv lv : Value) (rec : Nat → Nat → Rp) (f : Nat) : Prop := ∀ r i w, r < 17 → 20 * (L.length - i) + rankR r ≤ f → i ≤ L.length → PE w pb L tv lv i → Calls Tryz.prog (fnR r) #[.pointer (some ⟨pb, 0, none⟩)] w (RQ w pb L tv lv w.heap.size (rec r i))
def AdvA (L : List Tok) (rec : Nat → Nat → Rp) : Prop := ∀ r i, i ≤ L.length → Adv L i (rec r i)
section
variable {w : World} {pb : Nat} {L : List Tok} {tv lv : Value} {i : Nat}

set_option maxHeartbeats 2000000 in
set_option maxRecDepth 100000 in
theorem enclosed_any (g : FuncId) (rule : Nat → Rp) (hr : Rules pb L tv lv i g rule) (h : PE w pb L tv lv i) (hi : i ≤ L.length) (hL : L.length ≤ 100000000) :
    Calls Tryz.prog 81 #[.pointer (some ⟨pb, 0, none⟩), .func (.func g) #[.pointer (some ⟨pb, 0, none⟩)] #[]] w (RLQ w pb L tv lv (encP L rule i)) := by
  have HP := hide h
  have hpb := h.lt
  obtain ⟨R, hR⟩ : ∃ R, encP L rule i = R := ⟨_, rfl⟩
  rw [hR]
  unfold encP at hR
  have HQ := hide hR
  have HS0 := hide (St.of h (Ext.refl w))
  have hmf : ∀ (fn : Fn) (first cap : Array Value) (w : World), (Instr.makeFunc fn first cap).run Tryz.prog w = .ok (.func fn first cap) w := fun _ _ _ _ => rfl
  have g0 := fld0
  have g1 := fld1
  have g2 := fld2
  clear hR h
  have HR := hide hr
  clear hr
  go_enter Tryz.func81, Tryz.ntmps81
  obtain ⟨⟨j1, o1⟩, hR1⟩ : ∃ r : Nat × Option Unit, needP L [[40]] (i) = r := ⟨_, rfl⟩
  have ha1 := lea_need (L := L) [[40]] (i := i) (by omega) (by decide)
  have HC1 := hide (need_at [[40]] #[.string ⟨#[40]⟩] rfl (unhide HS0).pe (by simp) (by omega) (by omega))
  rw [hR1] at ha1 HC1 HQ
  clear hR1
  cases o1 with
  | none =>
    have HQn : Hid (R = (j1, none)) := (unhide HQ).symm
    go_wp2_with fail
    refine (unhide HC1).mono ?_
    rintro e w1 ⟨hs, rfl⟩
    have HSn := hide ((unhide HS0).trans hs)
    clear hs
    go_wp2
    exact ⟨rfl, RLQ.pan (unhide HSn) (unhide HQn)⟩
  | some u1 =>
    have hj1 : i ≤ j1 ∧ j1 ≤ L.length := ha1
    rw [bnd_some (r := (j1, some u1)) rfl] at HQ
    clear ha1
    go_wp2_with fail
    refine (unhide HC1).mono ?_
    rintro e w1 ⟨hs, rfl⟩
    have HS1 := hide ((unhide HS0).trans hs)
    have hz1 : w.heap.size ≤ w1.heap.size := (unhide HS1).out.size
    clear hs HC1
    by_cases ht : (tk L (j1)).text = [41]
    · rw [if_pos ht] at HQ
      have hlt := text_lt ht (by decide)
      have HC2 := hide (skip_yes [41] (unhide HS1).pe ht (by omega) (by omega))
      clear ht
      go_wp2_with fail
      refine (unhide HC2).mono ?_
      rintro e w2 ⟨rfl, hs⟩
      have HS2 := hide ((unhide HS1).trans hs)
      have hz2 : w.heap.size ≤ w2.heap.size := (unhide HS2).out.size
      have hy2 : w1.heap.size ≤ w2.heap.size := hs.out.size
      clear hs HC2
      go_wp2
      go_ret
      exact RLQ.ok (unhide HS2) (PRs.nil _ _ _ _ (Nat.le_refl _)) (unhide HQ).symm
    · rw [if_neg ht] at HQ
      have HC3 := hide (skip_no [41] (unhide HS1).pe ht (by omega) (by omega))
      clear ht
      go_wp2_with fail
      refine (unhide HC3).mono ?_
      rintro e w3 ⟨rfl, hx⟩
      have HS3 := hide ((unhide HS1).ext hx)
      have hz3 : w.heap.size ≤ w3.heap.size := (unhide HS3).out.size
      have hy3 : w1.heap.size ≤ w3.heap.size := hx.size
      clear hx HC3
      obtain ⟨⟨j4, o4⟩, hR4⟩ : ∃ r : Rl, sevP L rule (j1) = r := ⟨_, rfl⟩
      have ha4 := adv_sev (L := L) (i := j1) (fun k h1 h2 => (unhide HR).2.2 k (by omega) h2) (by omega)
      have HC4 := hide (several_any g rule (unhide HS3).pe (by omega) hL ((unhide HR).later (by omega)))
      rw [hR4] at ha4 HC4 HQ
      clear hR4
      cases o4 with
      | none =>
        have HQn : Hid (R = (j4, none)) := (unhide HQ).symm
        go_wp2_with fail
        refine (unhide HC4).mono ?_
        rintro e w4 ⟨hs, rfl⟩
        have HSn := hide ((unhide HS3).trans hs)
        clear hs
        go_wp2
        exact ⟨rfl, RLQ.pan (unhide HSn) (unhide HQn)⟩
      | some l4 =>
        have hj4 : j1 ≤ j4 ∧ j4 ≤ L.length := ha4.1
        rw [bnd_some (r := (j4, some l4)) rfl] at HQ
        clear ha4
        go_wp2_with fail
        refine (unhide HC4).mono ?_
        rintro e w4 ⟨hs, ao, cap, rfl, hp⟩
        have HS4 := hide ((unhide HS3).trans hs)
        have hz4 : w.heap.size ≤ w4.heap.size := (unhide HS4).out.size
        have hy4 : w3.heap.size ≤ w4.heap.size := hs.out.size
        clear hs HC4
        have PR4 := hide hp
        clear hp
        obtain ⟨⟨j5, o5⟩, hR5⟩ : ∃ r : Nat × Option Unit, needP L [[41]] (j4) = r := ⟨_, rfl⟩
        have ha5 := lea_need (L := L) [[41]] (i := j4) (by omega) (by decide)
        have HC5 := hide (need_at [[41]] #[.string ⟨#[41]⟩] rfl (unhide HS4).pe (by simp) (by omega) (by omega))
        rw [hR5] at ha5 HC5 HQ
        clear hR5
        cases o5 with
        | none =>
          have HQn : Hid (R = (j5, none)) := (unhide HQ).symm
          go_wp2_with fail
          refine (unhide HC5).mono ?_
          rintro e w5 ⟨hs, rfl⟩
          have HSn := hide ((unhide HS4).trans hs)
          clear hs
          go_wp2
          exact ⟨rfl, RLQ.pan (unhide HSn) (unhide HQn)⟩
        | some u5 =>
          have hj5 : j4 ≤ j5 ∧ j5 ≤ L.length := ha5
          rw [bnd_some (r := (j5, some u5)) rfl] at HQ
          clear ha5
          go_wp2_with fail
          refine (unhide HC5).mono ?_
          rintro e w5 ⟨hs, rfl⟩
          have HSO := hide hs
          have HS5 := hide ((unhide HS4).trans hs)
          have hz5 : w.heap.size ≤ w5.heap.size := (unhide HS5).out.size
          have hy5 : w4.heap.size ≤ w5.heap.size := hs.out.size
          clear hs HC5
          go_wp2
          go_ret
          exact RLQ.ok (unhide HS5) (((unhide PR4).out (unhide HSO).out (fun m e => .inl (by omega))).wide (by omega) (by have := (unhide PR4).top; omega) (Nat.le_refl _)) (unhide HQ).symm

set_option maxHeartbeats 2000000 in
set_option maxRecDepth 100000 in
theorem numberK_any (kind : Int) (h : PE w pb L tv lv i) (hi : i ≤ L.length) (hL : L.length ≤ 100000000) :
    Calls Tryz.prog 100 #[.pointer (some ⟨pb, 0, none⟩), .int .i64 kind] w (RQ w pb L tv lv w.heap.size (((i + 1, some (mkN kind [] [] (tk L i).num (tk L i).place [])) : Rp))) := by
  have HP := hide h
  have hpb := h.lt
  obtain ⟨R, hR⟩ : ∃ R, ((i + 1, some (mkN kind [] [] (tk L i).num (tk L i).place [])) : Rp) = R := ⟨_, rfl⟩
  rw [hR]
  have HQ := hide hR
  have HS0 := hide (St.of h (Ext.refl w))
  have hmf : ∀ (fn : Fn) (first cap : Array Value) (w : World), (Instr.makeFunc fn first cap).run Tryz.prog w = .ok (.func fn first cap) w := fun _ _ _ _ => rfl
  have g0 := fld0
  have g1 := fld1
  have g2 := fld2
  clear hR h
  go_enter Tryz.func100, Tryz.ntmps100
  have HC1 := hide (begin_any kind none 0 0 (unhide HS0).pe (by omega) (by omega))
  go_wp2_with fail
  refine (unhide HC1).mono ?_
  rintro e w1 ⟨xb, rfl, hxb, hB, hx⟩
  have hxw : w.heap.size ≤ xb := by omega
  have HS1 := hide ((unhide HS0).ext hx)
  have hz1 : w.heap.size ≤ w1.heap.size := (unhide HS1).out.size
  clear hx HC1
  have N1 : Hid (ND w1 w.heap.size w.heap.size xb kind [] [] 0 (tk L (i)).place (.slice none 0 0) []) := ND.new hB hxw
  clear hB
  have HC2 := hide (take_ok (unhide HS1).pe (by omega) (by omega))
  go_wp2_with fail
  refine (unhide HC2).mono ?_
  rintro e w2 ⟨rfl, hs⟩
  have HS2 := hide ((unhide HS1).trans hs)
  have hz2 : w.heap.size ≤ w2.heap.size := (unhide HS2).out.size
  have hy2 : w1.heap.size ≤ w2.heap.size := hs.out.size
  have N2 := hide ((unhide N1).out hs.out (by omega))
  clear N1
  clear hs HC2
  have q3 := (unhide N2).blk.cell (i := 3) rfl
  have fq3 := fun j => (unhide N2).blk.free j
  obtain ⟨w3, hw3⟩ : ∃ w3, w3 = w2.setCell ⟨xb, 3, none⟩ (.int .i32 (tk L i).num) := ⟨_, rfl⟩
  have N3 := hide ((unhide N2).setNum (tk L i).num)
  have HS3 := hide (St.set (c := 3) (v := .int .i32 (tk L i).num) (unhide HP) (unhide HS2) hxw)
  rw [← hw3] at N3 HS3
  have hz3 : w.heap.size ≤ w3.heap.size := (unhide HS3).out.size
  clear N2
  go_wp2
  rw [← hw3]
  clear hw3 q3 fq3
  go_ret
  exact RQ.ok (unhide HS3) (unhide N3).part ((unhide HQ).symm)

theorem exprEnters : ∀ args w, (callFunc 98 args).run Tryz.prog w = .ok (.enter 98 args) w := fun _ _ => by simp [go_sem]

set_option maxHeartbeats 2000000 in
set_option maxRecDepth 100000 in
theorem call_step {rec : Nat → Nat → Rp} {f : Nat} (H : Ctr pb L tv lv rec f) (HV : AdvA L rec) (hm : 20 * (L.length - i) + 1 ≤ f + 1) (h : PE w pb L tv lv i) (hi : i ≤ L.length) (hL : L.length ≤ 100000000) :
    Calls Tryz.prog 101 #[.pointer (some ⟨pb, 0, none⟩)] w (RQ w pb L tv lv w.heap.size (callP L rec i)) := by
  have HH := hide H
  have HVV := hide HV
  clear H HV
  have HP := hide h
  have hpb := h.lt
  obtain ⟨R, hR⟩ : ∃ R, callP L rec i = R := ⟨_, rfl⟩
  rw [hR]
  unfold callP at hR
  have HQ := hide hR
  have HS0 := hide (St.of h (Ext.refl w))
  have hmf : ∀ (fn : Fn) (first cap : Array Value) (w : World), (Instr.makeFunc fn first cap).run Tryz.prog w = .ok (.func fn first cap) w := fun _ _ _ _ => rfl
  have g0 := fld0
  have g1 := fld1
  have g2 := fld2
  clear hR h
  go_enter Tryz.func101, Tryz.ntmps101
  have HC1 := hide (begin_any 17 none 0 0 (unhide HS0).pe (by omega) (by omega))
  go_wp2_with fail
  refine (unhide HC1).mono ?_
  rintro e w1 ⟨xb, rfl, hxb, hB, hx⟩
  have hxw : w.heap.size ≤ xb := by omega
  have HS1 := hide ((unhide HS0).ext hx)
  have hz1 : w.heap.size ≤ w1.heap.size := (unhide HS1).out.size
  clear hx HC1
  have N1 : Hid (ND w1 w.heap.size w.heap.size xb 17 [] [] 0 (tk L (i)).place (.slice none 0 0) []) := ND.new hB hxw
  clear hB
  cases hn : isNm L i with
  | true =>
    have hlt := name_lt hn
    rw [hn, Bool.true_or, show takeP L true i = (i + 1, some (tk L i)) from rfl, bnd_some rfl] at HQ
    have HC0 := isName_any (unhide HS1).pe (by omega) (by omega)
    rw [hn] at HC0
    have HC2 := hide HC0
    clear HC0
    go_wp2_with fail
    refine (unhide HC2).mono ?_
    rintro e w2 ⟨rfl, hx⟩
    have HS2 := hide ((unhide HS1).ext hx)
    have hz2 : w.heap.size ≤ w2.heap.size := (unhide HS2).out.size
    have hy2 : w1.heap.size ≤ w2.heap.size := hx.size
    have N2 := hide ((unhide N1).ext hx)
    clear N1
    clear hx HC2
    have HC3 := hide (take_ok (unhide HS2).pe (by omega) (by omega))
    go_wp2_with fail
    refine (unhide HC3).mono ?_
    rintro e w3 ⟨rfl, hs⟩
    have HS3 := hide ((unhide HS2).trans hs)
    have hz3 : w.heap.size ≤ w3.heap.size := (unhide HS3).out.size
    have hy3 : w2.heap.size ≤ w3.heap.size := hs.out.size
    have N3 := hide ((unhide N2).out hs.out (by omega))
    clear N2
    clear hs HC3
    have q4 := (unhide N3).blk.cell (i := 2) rfl
    have fq4 := fun j => (unhide N3).blk.free j
    obtain ⟨w4, hw4⟩ : ∃ w4, w4 = w3.setCell ⟨xb, 2, none⟩ (.string ⟨(tk L i).text.toArray⟩) := ⟨_, rfl⟩
    have N4 := hide ((unhide N3).setText (tk L i).text)
    have HS4 := hide (St.set (c := 2) (v := .string ⟨(tk L i).text.toArray⟩) (unhide HP) (unhide HS3) hxw)
    rw [← hw4] at N4 HS4
    have hz4 : w.heap.size ≤ w4.heap.size := (unhide HS4).out.size
    clear N3
    obtain ⟨⟨j5, o5⟩, hR5⟩ : ∃ r : Rl, encP L (rec 0) (i + 1) = r := ⟨_, rfl⟩
    have ha5 := adv_enc (L := L) (rule := rec 0) (i := i + 1) (fun k h1 h2 => unhide HVV 0 k h2) (by omega)
    have HC5 := hide (enclosed_any 98 (rec 0) ⟨exprEnters, fun k wk h1 h2 hk => unhide HH 0 k wk (by decide) (show 20 * (L.length - k) + 12 ≤ f by omega) h2 hk, fun k h1 h2 => unhide HVV 0 k h2⟩ (unhide HS4).pe (by omega) hL)
    rw [hR5] at ha5 HC5 HQ
    clear hR5
    cases o5 with
    | none =>
      have HQn : Hid (R = (j5, none)) := (unhide HQ).symm
      go_wp2_with fail
      rw [← hw4]
      clear hw4 q4 fq4
      refine (unhide HC5).mono ?_
      rintro e w5 ⟨hs, rfl⟩
      have HSn := hide ((unhide HS4).trans hs)
      clear hs
      go_wp2
      exact ⟨rfl, RQ.pan (unhide HSn) (unhide HQn)⟩
    | some l5 =>
      have hj5 : i + 1 < j5 ∧ j5 ≤ L.length := ⟨ha5.2 rfl, ha5.1.2⟩
      rw [bnd_some (r := (j5, some l5)) rfl] at HQ
      clear ha5
      have hxl : xb < w4.heap.size := (unhide N4).blk.lt
      go_wp2_with fail
      rw [← hw4]
      clear hw4 q4 fq4
      refine (unhide HC5).mono ?_
      rintro e w5 ⟨hs, ao, cap, rfl, hp⟩
      have HS5 := hide ((unhide HS4).trans hs)
      have hz5 : w.heap.size ≤ w5.heap.size := (unhide HS5).out.size
      have hy5 : w4.heap.size ≤ w5.heap.size := hs.out.size
      have N5 := hide ((unhide N4).out hs.out (by omega))
      clear N4
      clear hs HC5
      have PR5 := hide hp
      clear hp
      have q6 := (unhide N5).blk.cell (i := 6) rfl
      have fq6 := fun j => (unhide N5).blk.free j
      obtain ⟨w6, hw6⟩ : ∃ w6, w6 = w5.setCell ⟨xb, 6, none⟩ (.slice ao l5.length cap) := ⟨_, rfl⟩
      have N6 := hide ((unhide N5).setKids (((unhide PR5).imp (X' := fun b => b = xb) (fun m e => .inr (.inr (by omega)))).wide (by omega) (Nat.le_refl _) (Nat.le_refl _)) (fun m e => by have := (unhide PR5).ge m e; omega))
      have HS6 := hide (St.set (c := 6) (v := .slice ao l5.length cap) (unhide HP) (unhide HS5) hxw)
      rw [← hw6] at N6 HS6
      have hz6 : w.heap.size ≤ w6.heap.size := (unhide HS6).out.size
      clear N5 PR5
      go_wp2
      rw [← hw6]
      clear hw6 q6 fq6
      go_ret
      exact RQ.ok (unhide HS6) (unhide N6).part ((unhide HQ).symm)
  | false =>
    rw [hn, Bool.false_or] at HQ
    have HC0 := isName_any (unhide HS1).pe (by omega) (by omega)
    rw [hn] at HC0
    have HC7 := hide HC0
    clear HC0
    go_wp2_with fail
    refine (unhide HC7).mono ?_
    rintro e w7 ⟨rfl, hx⟩
    have HS7 := hide ((unhide HS1).ext hx)
    have hz7 : w.heap.size ≤ w7.heap.size := (unhide HS7).out.size
    have hy7 : w1.heap.size ≤ w7.heap.size := hx.size
    have N7 := hide ((unhide N1).ext hx)
    clear N1
    clear hx HC7
    have HC8 := hide (ahead0 (unhide HS7).pe (by omega) (by omega))
    go_wp2_with fail
    refine (unhide HC8).mono ?_
    rintro e w8 ⟨rfl, hx⟩
    have HS8 := hide ((unhide HS7).ext hx)
    have hz8 : w.heap.size ≤ w8.heap.size := (unhide HS8).out.size
    have hy8 : w7.heap.size ≤ w8.heap.size := hx.size
    have N8 := hide ((unhide N7).ext hx)
    clear N7
    clear hx HC8
    cases ht : isTypeW (tk L i).text with
    | true =>
      have hlt := type_lt ht
      rw [ht, show takeP L true i = (i + 1, some (tk L i)) from rfl, bnd_some rfl] at HQ
      have HC0 := typeW_any (tk L i).text w8
      rw [ht] at HC0
      have HC9 := hide HC0
      clear HC0
      go_wp2_with fail
      refine (unhide HC9).mono ?_
      rintro e wq ⟨rfl, hwq⟩
      rw [hwq]
      clear hwq HC9
      have HC10 := hide (take_ok (unhide HS8).pe (by omega) (by omega))
      go_wp2_with fail
      refine (unhide HC10).mono ?_
      rintro e w10 ⟨rfl, hs⟩
      have HS10 := hide ((unhide HS8).trans hs)
      have hz10 : w.heap.size ≤ w10.heap.size := (unhide HS10).out.size
      have hy10 : w8.heap.size ≤ w10.heap.size := hs.out.size
      have N10 := hide ((unhide N8).out hs.out (by omega))
      clear N8
      clear hs HC10
      have q11 := (unhide N10).blk.cell (i := 2) rfl
      have fq11 := fun j => (unhide N10).blk.free j
      obtain ⟨w11, hw11⟩ : ∃ w11, w11 = w10.setCell ⟨xb, 2, none⟩ (.string ⟨(tk L i).text.toArray⟩) := ⟨_, rfl⟩
      have N11 := hide ((unhide N10).setText (tk L i).text)
      have HS11 := hide (St.set (c := 2) (v := .string ⟨(tk L i).text.toArray⟩) (unhide HP) (unhide HS10) hxw)
      rw [← hw11] at N11 HS11
      have hz11 : w.heap.size ≤ w11.heap.size := (unhide HS11).out.size
      clear N10
      obtain ⟨⟨j12, o12⟩, hR12⟩ : ∃ r : Rl, encP L (rec 0) (i + 1) = r := ⟨_, rfl⟩
      have ha12 := adv_enc (L := L) (rule := rec 0) (i := i + 1) (fun k h1 h2 => unhide HVV 0 k h2) (by omega)
      have HC12 := hide (enclosed_any 98 (rec 0) ⟨exprEnters, fun k wk h1 h2 hk => unhide HH 0 k wk (by decide) (show 20 * (L.length - k) + 12 ≤ f by omega) h2 hk, fun k h1 h2 => unhide HVV 0 k h2⟩ (unhide HS11).pe (by omega) hL)
      rw [hR12] at ha12 HC12 HQ
      clear hR12
      cases o12 with
      | none =>
        have HQn : Hid (R = (j12, none)) := (unhide HQ).symm
        go_wp2_with fail
        rw [← hw11]
        clear hw11 q11 fq11
        refine (unhide HC12).mono ?_
        rintro e w12 ⟨hs, rfl⟩
        have HSn := hide ((unhide HS11).trans hs)
        clear hs
        go_wp2
        exact ⟨rfl, RQ.pan (unhide HSn) (unhide HQn)⟩
      | some l12 =>
        have hj12 : i + 1 < j12 ∧ j12 ≤ L.length := ⟨ha12.2 rfl, ha12.1.2⟩
        rw [bnd_some (r := (j12, some l12)) rfl] at HQ
        clear ha12
        have hxl : xb < w11.heap.size := (unhide N11).blk.lt
        go_wp2_with fail
        rw [← hw11]
        clear hw11 q11 fq11
        refine (unhide HC12).mono ?_
        rintro e w12 ⟨hs, ao, cap, rfl, hp⟩
        have HS12 := hide ((unhide HS11).trans hs)
        have hz12 : w.heap.size ≤ w12.heap.size := (unhide HS12).out.size
        have hy12 : w11.heap.size ≤ w12.heap.size := hs.out.size
        have N12 := hide ((unhide N11).out hs.out (by omega))
        clear N11
        clear hs HC12
        have PR12 := hide hp
        clear hp
        have q13 := (unhide N12).blk.cell (i := 6) rfl
        have fq13 := fun j => (unhide N12).blk.free j
        obtain ⟨w13, hw13⟩ : ∃ w13, w13 = w12.setCell ⟨xb, 6, none⟩ (.slice ao l12.length cap) := ⟨_, rfl⟩
        have N13 := hide ((unhide N12).setKids (((unhide PR12).imp (X' := fun b => b = xb) (fun m e => .inr (.inr (by omega)))).wide (by omega) (Nat.le_refl _) (Nat.le_refl _)) (fun m e => by have := (unhide PR12).ge m e; omega))
        have HS13 := hide (St.set (c := 6) (v := .slice ao l12.length cap) (unhide HP) (unhide HS12) hxw)
        rw [← hw13] at N13 HS13
        have hz13 : w.heap.size ≤ w13.heap.size := (unhide HS13).out.size
        clear N12 PR12
        go_wp2
        rw [← hw13]
        clear hw13 q13 fq13
        go_ret
        exact RQ.ok (unhide HS13) (unhide N13).part ((unhide HQ).symm)
    | false =>
      rw [ht, show takeP L false i = (i, none) from rfl, bnd_none rfl] at HQ
      have HQn := hide (unhide HQ).symm
      have HC0 := typeW_any (tk L i).text w8
      rw [ht] at HC0
      have HC14 := hide HC0
      clear HC0
      go_wp2_with fail
      refine (unhide HC14).mono ?_
      rintro e wq ⟨rfl, hwq⟩
      rw [hwq]
      clear hwq HC14
      have HC15 := hide (take_no (unhide HS8).pe)
      go_wp2_with fail
      refine (unhide HC15).mono ?_
      rintro e w15 ⟨rfl, hx⟩
      have HSn := hide ((unhide HS8).ext hx)
      clear hx
      go_wp2
      exact ⟨rfl, RQ.pan (unhide HSn) (unhide HQn)⟩

end
end Go.Proofs.YtjfhhhabcbkahaaGreat
