/-
  Rules: variables, declarations, parameters, bounds.
-/
import Derived.Test.YtjfhhhabcbkahaaGreatTQe
import Derived.Test.YtjfhhhabcbkahaaGreatTKb
namespace Go.Proofs.YtjfhhhabcbkahaaGreat
open Go.RowKit
set_option linter.unusedVariables false
set_option linter.unusedSimpArgs false
section
variable {w : World} {pb : Nat} {L : List Tok} {tv lv : Value} {i : Nat}

set_option maxHeartbeats 1000000 in
set_option maxRecDepth 100000 in
theorem variable_any {rec : Nat → Nat → Rp} {f : Nat} (H : Ctr pb L tv lv rec f) (HV : AdvA L rec) (hm : 20 * (L.length - i) + 14 ≤ f + 1) (h : PE w pb L tv lv i) (hi : i ≤ L.length) (hL : L.length ≤ 100000000) :
    Calls Tryz.prog 85 #[.pointer (some ⟨pb, 0, none⟩)] w (RQ w pb L tv lv w.heap.size (varP L rec i)) := by
  have HH := hide H
  have HVV := hide HV
  clear H HV
  have HP := hide h
  have hpb := h.lt
  obtain ⟨R, hR⟩ : ∃ R, varP L rec i = R := ⟨_, rfl⟩
  rw [hR]
  unfold varP at hR
  have HQ := hide hR
  have HS0 := hide (St.of h (Ext.refl w))
  have hmf : ∀ (fn : Fn) (first cap : Array Value) (w : World), (Instr.makeFunc fn first cap).run Tryz.prog w = .ok (.func fn first cap) w := fun _ _ _ _ => rfl
  have g0 := fld0
  have g1 := fld1
  have g2 := fld2
  clear hR h
  go_enter Tryz.func85, Tryz.ntmps85
  have HC1 := hide (begin_any 3 none 0 0 (unhide HS0).pe (by omega) (by omega))
  go_wp2_with fail
  refine (unhide HC1).mono ?_
  rintro e w1 ⟨xb, rfl, hxb, hB, hx⟩
  have hxw : w.heap.size ≤ xb := by omega
  have HS1 := hide ((unhide HS0).ext hx)
  have hz1 : w.heap.size ≤ w1.heap.size := (unhide HS1).out.size
  clear hx HC1
  have N1 : Hid (ND w1 w.heap.size w.heap.size xb 3 [] [] 0 (tk L (i)).place (.slice none 0 0) []) := ND.new hB hxw
  clear hB
  obtain ⟨⟨j2, o2⟩, hR2⟩ : ∃ r : Nat × Option Tok, takeP L (isNm L (i)) (i) = r := ⟨_, rfl⟩
  have ha2 := adv_take (L := L) (i := i) (may := isNm L (i)) (by omega) name_lt
  have HC2 := hide (name_any (unhide HS1).pe (by omega) (by omega))
  rw [hR2] at ha2 HC2 HQ
  clear hR2
  cases o2 with
  | none =>
    have HQn : Hid (R = (j2, none)) := (unhide HQ).symm
    go_wp2_with fail
    refine (unhide HC2).mono ?_
    rintro e w2 ⟨hs, rfl⟩
    have HSn := hide ((unhide HS1).trans hs)
    clear hs
    go_wp2
    exact ⟨rfl, RQ.pan (unhide HSn) (unhide HQn)⟩
  | some t2 =>
    have hj2 : i < j2 ∧ j2 ≤ L.length := ⟨ha2.2 rfl, ha2.1.2⟩
    rw [bnd_some (r := (j2, some t2)) rfl] at HQ
    clear ha2
    go_wp2_with fail
    refine (unhide HC2).mono ?_
    rintro e w2 ⟨hs, rfl⟩
    have HS2 := hide ((unhide HS1).trans hs)
    have hz2 : w.heap.size ≤ w2.heap.size := (unhide HS2).out.size
    have hy2 : w1.heap.size ≤ w2.heap.size := hs.out.size
    have N2 := hide ((unhide N1).out hs.out (by omega))
    clear N1
    clear hs HC2
    have q3 := (unhide N2).blk.cell (i := 2) rfl
    have fq3 := fun j => (unhide N2).blk.free j
    obtain ⟨w3, hw3⟩ : ∃ w3, w3 = w2.setCell ⟨xb, 2, none⟩ (.string ⟨t2.text.toArray⟩) := ⟨_, rfl⟩
    have HZ3 : Hid (w2.heap.size = w3.heap.size) := by show w2.heap.size = w3.heap.size; rw [hw3]; simp
    have N3 := hide ((unhide N2).setText t2.text)
    have HS3 := hide (St.set (c := 2) (v := .string ⟨t2.text.toArray⟩) (unhide HP) (unhide HS2) hxw)
    rw [← hw3] at N3 HS3
    have hz3 : w.heap.size ≤ w3.heap.size := (unhide HS3).out.size
    clear N2
    by_cases ht : (tk L (j2)).text = [61]
    · rw [if_pos ht] at HQ
      have hlt := text_lt ht (by decide)
      have HC4 := hide (skip_yes [61] (unhide HS3).pe ht (by omega) (by omega))
      clear ht
      go_wp2_with fail
      rw [← hw3]
      first | rw [unhide HZ3] | skip
      clear hw3 q3 fq3
      refine (unhide HC4).mono ?_
      rintro e w4 ⟨rfl, hs⟩
      have HS4 := hide ((unhide HS3).trans hs)
      have hz4 : w.heap.size ≤ w4.heap.size := (unhide HS4).out.size
      have hy4 : w3.heap.size ≤ w4.heap.size := hs.out.size
      have N4 := hide ((unhide N3).out hs.out (by omega))
      clear N3
      clear hs HC4
      have hxl5 : xb < w4.heap.size := (unhide N4).blk.lt
      obtain ⟨⟨j5, o5⟩, hR5⟩ : ∃ r : Rp, rec 0 (j2 + 1) = r := ⟨_, rfl⟩
      have ha5 := unhide HVV 0 (j2 + 1) (by omega)
      have HC5 := hide (unhide HH 0 (j2 + 1) w4 (by decide) (show 20 * (L.length - (j2 + 1)) + 12 ≤ f by omega) (by omega) (unhide HS4).pe)
      rw [hR5] at ha5 HC5 HQ
      clear hR5
      cases o5 with
      | none =>
        have HQn : Hid (R = (j5, none)) := (unhide HQ).symm
        go_wp2_with fail
        refine (unhide HC5).mono ?_
        rintro e w5 ⟨hs, rfl⟩
        have HSn := hide ((unhide HS4).trans hs)
        clear hs
        go_wp2
        exact ⟨rfl, RQ.pan (unhide HSn) (unhide HQn)⟩
      | some x5 =>
        have hj5 : j2 + 1 < j5 ∧ j5 ≤ L.length := ⟨ha5.2 rfl, ha5.1.2⟩
        rw [bnd_some (r := (j5, some x5)) rfl] at HQ
        clear ha5
        go_wp2_with fail
        refine (unhide HC5).mono ?_
        rintro e w5 ⟨hs, b5, rfl, hp⟩
        have HS5 := hide ((unhide HS4).trans hs)
        have hz5 : w.heap.size ≤ w5.heap.size := (unhide HS5).out.size
        have hy5 : w4.heap.size ≤ w5.heap.size := hs.out.size
        have N5 := hide ((unhide N4).out hs.out (by omega))
        clear N4
        clear hs HC5
        have P5 := hide hp
        clear hp
        have q6 := ((unhide N5).ext ((Ext.refl w5).alloc (.cells #[.pointer (some ⟨b5, 0, none⟩)] 53))).blk.cell (i := 6) rfl
        have fq6 := fun j => ((unhide N5).ext ((Ext.refl w5).alloc (.cells #[.pointer (some ⟨b5, 0, none⟩)] 53))).blk.free j
        obtain ⟨w6, hw6⟩ : ∃ w6, w6 = (w5.alloc (.cells #[.pointer (some ⟨b5, 0, none⟩)] 53)).setCell ⟨xb, 6, none⟩ (.slice (some ⟨w5.heap.size, 0, none⟩) 1 1) := ⟨_, rfl⟩
        have HZ6 : Hid (w5.heap.size + 1 = w6.heap.size) := by show w5.heap.size + 1 = w6.heap.size; rw [hw6]; simp
        have N6 := hide (((unhide N5).ext ((Ext.refl w5).alloc (.cells #[.pointer (some ⟨b5, 0, none⟩)] 53))).setKids (v' := .slice (some ⟨w5.heap.size, 0, none⟩) 1 1) (l' := [x5]) (by
          have hsz : (w5.alloc (.cells #[.pointer (some ⟨b5, 0, none⟩)] 53)).heap.size = w5.heap.size + 1 := by simp
          have hp2 := ((unhide P5).ext ((Ext.refl w5).alloc (.cells #[.pointer (some ⟨b5, 0, none⟩)] 53)))
          have hlt := (unhide N5).blk.lt
          have hone := PRs.one (lo := w4.heap.size) (hi := w5.heap.size + 1) (X := fun b => b = xb) hp2 (Blk.new _ _ _) (Nat.le_refl _) (by omega) (by omega) (by omega) (fun m e => .inl (by omega))
          exact hone.wide (by omega) (by omega) (Nat.le_refl _)) (fun m e => by
          have e2 : w5.heap.size = m := by simpa [Value.ownBlock] using e
          omega))
        have HS6 := hide (St.set (c := 6) (v := .slice (some ⟨w5.heap.size, 0, none⟩) 1 1) (unhide HP) ((unhide HS5).ext ((Ext.refl w5).alloc (.cells #[.pointer (some ⟨b5, 0, none⟩)] 53))) hxw)
        rw [← hw6] at N6 HS6
        have hz6 : w.heap.size ≤ w6.heap.size := (unhide HS6).out.size
        clear N5 P5
        go_wp2
        rw [← hw6]
        first | rw [unhide HZ6] | skip
        clear hw6 q6 fq6
        go_ret
        exact RQ.ok (unhide HS6) (unhide N6).part ((unhide HQ).symm)
    · rw [if_neg ht] at HQ
      have HC7 := hide (skip_no [61] (unhide HS3).pe ht (by omega) (by omega))
      clear ht
      go_wp2_with fail
      rw [← hw3]
      first | rw [unhide HZ3] | skip
      clear hw3 q3 fq3
      refine (unhide HC7).mono ?_
      rintro e w7 ⟨rfl, hx⟩
      have HS7 := hide ((unhide HS3).ext hx)
      have hz7 : w.heap.size ≤ w7.heap.size := (unhide HS7).out.size
      have hy7 : w3.heap.size ≤ w7.heap.size := hx.size
      have N7 := hide ((unhide N3).ext hx)
      clear N3
      clear hx HC7
      go_wp2
      go_ret
      exact RQ.ok (unhide HS7) (unhide N7).part ((unhide HQ).symm)

theorem variableEnters : ∀ args w, (callFunc 85 args).run Tryz.prog w = .ok (.enter 85 args) w := fun _ _ => by simp [go_sem]
theorem paramEnters : ∀ args w, (callFunc 82 args).run Tryz.prog w = .ok (.enter 82 args) w := fun _ _ => by simp [go_sem]

set_option maxHeartbeats 1000000 in
set_option maxRecDepth 100000 in
theorem decl_any {rec : Nat → Nat → Rp} {f : Nat} (H : Ctr pb L tv lv rec f) (HV : AdvA L rec) (hm : 20 * (L.length - i) + 15 ≤ f + 1) (words : List Byts8) (hwn : ∀ x ∈ words, x ≠ []) {wo : Option Addr} {wn wc : Nat} (hsf : SF (fun b => b = pb) w (.slice wo wn wc) words) (h : PE w pb L tv lv i) (hi : i ≤ L.length) (hL : L.length ≤ 100000000) :
    Calls Tryz.prog 62 #[.pointer (some ⟨pb, 0, none⟩), .slice wo wn wc] w (RQ w pb L tv lv w.heap.size (declP L rec words i)) := by
  have HH := hide H
  have HVV := hide HV
  clear H HV
  have HP := hide h
  have hpb := h.lt
  obtain ⟨R, hR⟩ : ∃ R, declP L rec words i = R := ⟨_, rfl⟩
  rw [hR]
  unfold declP at hR
  have HQ := hide hR
  have HS0 := hide (St.of h (Ext.refl w))
  have hmf : ∀ (fn : Fn) (first cap : Array Value) (w : World), (Instr.makeFunc fn first cap).run Tryz.prog w = .ok (.func fn first cap) w := fun _ _ _ _ => rfl
  have g0 := fld0
  have g1 := fld1
  have g2 := fld2
  clear hR h
  have HSF := hide hsf
  have HWN := hide hwn
  clear hsf hwn
  go_enter Tryz.func62, Tryz.ntmps62
  have HC1 := hide (begin_any 2 none 0 0 (unhide HS0).pe (by omega) (by omega))
  go_wp2_with fail
  refine (unhide HC1).mono ?_
  rintro e w1 ⟨xb, rfl, hxb, hB, hx⟩
  have hxw : w.heap.size ≤ xb := by omega
  have HS1 := hide ((unhide HS0).ext hx)
  have hz1 : w.heap.size ≤ w1.heap.size := (unhide HS1).out.size
  clear hx HC1
  have N1 : Hid (ND w1 w.heap.size w.heap.size xb 2 [] [] 0 (tk L (i)).place (.slice none 0 0) []) := ND.new hB hxw
  clear hB
  have HC0 := isOne_any (unhide HS1).pe ((unhide HSF).out (unhide HS1).out) (by omega) (by omega)
  by_cases hc : words.contains (tk L i).text = true
  · rw [if_pos hc] at HQ
    have hlt := con_lt hc (unhide HWN)
    rw [hc] at HC0
    unfold declR at HQ
    clear hc
    have HC2 := hide (HC0)
    go_wp2_with fail
    refine (unhide HC2).mono ?_
    rintro e w2 ⟨rfl, hx⟩
    have HS2 := hide ((unhide HS1).ext hx)
    have hz2 : w.heap.size ≤ w2.heap.size := (unhide HS2).out.size
    have hy2 : w1.heap.size ≤ w2.heap.size := hx.size
    have N2 := hide ((unhide N1).ext hx)
    clear N1
    clear hx HC2
    have HC3 := hide (take_ok (unhide HS2).pe (by omega) (by omega))
    go_wp2_with fail
    refine (unhide HC3).mono ?_
    rintro e w3 ⟨rfl, hs⟩
    have HS3 := hide ((unhide HS2).trans hs)
    have hz3 : w.heap.size ≤ w3.heap.size := (unhide HS3).out.size
    have hy3 : w2.heap.size ≤ w3.heap.size := hs.out.size
    have N3 := hide ((unhide N2).out hs.out (by omega))
    clear N2
    clear hs HC3
    have q4 := (unhide N3).blk.cell (i := 2) rfl
    have fq4 := fun j => (unhide N3).blk.free j
    obtain ⟨w4, hw4⟩ : ∃ w4, w4 = w3.setCell ⟨xb, 2, none⟩ (.string ⟨(tk L i).text.toArray⟩) := ⟨_, rfl⟩
    have HZ4 : Hid (w3.heap.size = w4.heap.size) := by show w3.heap.size = w4.heap.size; rw [hw4]; simp
    have N4 := hide ((unhide N3).setText (tk L i).text)
    have HS4 := hide (St.set (c := 2) (v := .string ⟨(tk L i).text.toArray⟩) (unhide HP) (unhide HS3) hxw)
    rw [← hw4] at N4 HS4
    have hz4 : w.heap.size ≤ w4.heap.size := (unhide HS4).out.size
    clear N3
    obtain ⟨⟨j5, o5⟩, hR5⟩ : ∃ r : Nat × Option Tok, takeP L (isTypeW (tk L (i + 1)).text) (i + 1) = r := ⟨_, rfl⟩
    have ha5 := adv_take (L := L) (i := i + 1) (may := isTypeW (tk L (i + 1)).text) (by omega) type_lt
    have HC5 := hide (typeWord_any (unhide HS4).pe (by omega) (by omega))
    rw [hR5] at ha5 HC5 HQ
    clear hR5
    cases o5 with
    | none =>
      have HQn : Hid (R = (j5, none)) := (unhide HQ).symm
      go_wp2_with fail
      rw [← hw4]
      first | rw [unhide HZ4] | skip
      clear hw4 q4 fq4
      refine (unhide HC5).mono ?_
      rintro e w5 ⟨hs, rfl⟩
      have HSn := hide ((unhide HS4).trans hs)
      clear hs
      go_wp2
      exact ⟨rfl, RQ.pan (unhide HSn) (unhide HQn)⟩
    | some t5 =>
      have hj5 : i + 1 < j5 ∧ j5 ≤ L.length := ⟨ha5.2 rfl, ha5.1.2⟩
      rw [bnd_some (r := (j5, some t5)) rfl] at HQ
      clear ha5
      go_wp2_with fail
      rw [← hw4]
      first | rw [unhide HZ4] | skip
      clear hw4 q4 fq4
      refine (unhide HC5).mono ?_
      rintro e w5 ⟨hs, rfl⟩
      have HS5 := hide ((unhide HS4).trans hs)
      have hz5 : w.heap.size ≤ w5.heap.size := (unhide HS5).out.size
      have hy5 : w4.heap.size ≤ w5.heap.size := hs.out.size
      have N5 := hide ((unhide N4).out hs.out (by omega))
      clear N4
      clear hs HC5
      have q6 := (unhide N5).blk.cell (i := 1) rfl
      have fq6 := fun j => (unhide N5).blk.free j
      obtain ⟨w6, hw6⟩ : ∃ w6, w6 = w5.setCell ⟨xb, 1, none⟩ (.string ⟨t5.text.toArray⟩) := ⟨_, rfl⟩
      have HZ6 : Hid (w5.heap.size = w6.heap.size) := by show w5.heap.size = w6.heap.size; rw [hw6]; simp
      have N6 := hide ((unhide N5).setType t5.text)
      have HS6 := hide (St.set (c := 1) (v := .string ⟨t5.text.toArray⟩) (unhide HP) (unhide HS5) hxw)
      rw [← hw6] at N6 HS6
      have hz6 : w.heap.size ≤ w6.heap.size := (unhide HS6).out.size
      clear N5
      obtain ⟨⟨j7, o7⟩, hR7⟩ : ∃ r : Rl, sevP L (varP L rec) (j5) = r := ⟨_, rfl⟩
      have ha7 := adv_sev (L := L) (rule := varP L rec) (i := j5) (fun k h1 h2 => adv_var (unhide HVV) h2) (by omega)
      have HC7 := hide (several_any 85 (varP L rec) (unhide HS6).pe (by omega) hL ⟨variableEnters, fun k wk h1 h2 hk => variable_any (unhide HH) (unhide HVV) (by omega) hk h2 hL, fun k h1 h2 => adv_var (unhide HVV) h2⟩)
      rw [hR7] at ha7 HC7 HQ
      clear hR7
      cases o7 with
      | none =>
        have HQn : Hid (R = (j7, none)) := (unhide HQ).symm
        go_wp2_with fail
        rw [← hw6]
        first | rw [unhide HZ6] | skip
        clear hw6 q6 fq6
        refine (unhide HC7).mono ?_
        rintro e w7 ⟨hs, rfl⟩
        have HSn := hide ((unhide HS6).trans hs)
        clear hs
        go_wp2
        exact ⟨rfl, RQ.pan (unhide HSn) (unhide HQn)⟩
      | some l7 =>
        have hj7 : j5 < j7 ∧ j7 ≤ L.length := ⟨ha7.2 rfl, ha7.1.2⟩
        rw [bnd_some (r := (j7, some l7)) rfl] at HQ
        clear ha7
        have hxl : xb < w6.heap.size := (unhide N6).blk.lt
        go_wp2_with fail
        rw [← hw6]
        first | rw [unhide HZ6] | skip
        clear hw6 q6 fq6
        refine (unhide HC7).mono ?_
        rintro e w7 ⟨hs, ao, cap, rfl, hp⟩
        have HS7 := hide ((unhide HS6).trans hs)
        have hz7 : w.heap.size ≤ w7.heap.size := (unhide HS7).out.size
        have hy7 : w6.heap.size ≤ w7.heap.size := hs.out.size
        have N7 := hide ((unhide N6).out hs.out (by omega))
        clear N6
        clear hs HC7
        have PR7 := hide hp
        clear hp
        have q8 := (unhide N7).blk.cell (i := 6) rfl
        have fq8 := fun j => (unhide N7).blk.free j
        obtain ⟨w8, hw8⟩ : ∃ w8, w8 = w7.setCell ⟨xb, 6, none⟩ (.slice ao l7.length cap) := ⟨_, rfl⟩
        have HZ8 : Hid (w7.heap.size = w8.heap.size) := by show w7.heap.size = w8.heap.size; rw [hw8]; simp
        have N8 := hide ((unhide N7).setKids (((unhide PR7).imp (X' := fun b => b = xb) (fun m e => .inr (.inr (by omega)))).wide (by omega) (Nat.le_refl _) (Nat.le_refl _)) (fun m e => by have := (unhide PR7).ge m e; omega))
        have HS8 := hide (St.set (c := 6) (v := .slice ao l7.length cap) (unhide HP) (unhide HS7) hxw)
        rw [← hw8] at N8 HS8
        have hz8 : w.heap.size ≤ w8.heap.size := (unhide HS8).out.size
        clear N7 PR7
        obtain ⟨⟨j9, o9⟩, hR9⟩ : ∃ r : Nat × Option Unit, needP L [[59]] (j7) = r := ⟨_, rfl⟩
        have ha9 := lea_need (L := L) [[59]] (i := j7) (by omega) (by decide)
        have HC9 := hide (need_at [[59]] #[.string ⟨#[59]⟩] rfl (unhide HS8).pe (by simp) (by omega) (by omega))
        rw [hR9] at ha9 HC9 HQ
        clear hR9
        cases o9 with
        | none =>
          have HQn : Hid (R = (j9, none)) := (unhide HQ).symm
          go_wp2_with fail
          rw [← hw8]
          first | rw [unhide HZ8] | skip
          clear hw8 q8 fq8
          refine (unhide HC9).mono ?_
          rintro e w9 ⟨hs, rfl⟩
          have HSn := hide ((unhide HS8).trans hs)
          clear hs
          go_wp2
          exact ⟨rfl, RQ.pan (unhide HSn) (unhide HQn)⟩
        | some u9 =>
          have hj9 : j7 ≤ j9 ∧ j9 ≤ L.length := ha9
          rw [bnd_some (r := (j9, some u9)) rfl] at HQ
          clear ha9
          go_wp2_with fail
          rw [← hw8]
          first | rw [unhide HZ8] | skip
          clear hw8 q8 fq8
          refine (unhide HC9).mono ?_
          rintro e w9 ⟨hs, rfl⟩
          have HS9 := hide ((unhide HS8).trans hs)
          have hz9 : w.heap.size ≤ w9.heap.size := (unhide HS9).out.size
          have hy9 : w8.heap.size ≤ w9.heap.size := hs.out.size
          have N9 := hide ((unhide N8).out hs.out (by omega))
          clear N8
          clear hs HC9
          go_wp2
          go_ret
          exact RQ.ok (unhide HS9) (unhide N9).part ((unhide HQ).symm)
  · rw [if_neg hc] at HQ
    rw [Bool.eq_false_iff.2 hc] at HC0
    unfold declR at HQ
    clear hc
    have HC10 := hide (HC0)
    go_wp2_with fail
    refine (unhide HC10).mono ?_
    rintro e w10 ⟨rfl, hx⟩
    have HS10 := hide ((unhide HS1).ext hx)
    have hz10 : w.heap.size ≤ w10.heap.size := (unhide HS10).out.size
    have hy10 : w1.heap.size ≤ w10.heap.size := hx.size
    have N10 := hide ((unhide N1).ext hx)
    clear N1
    clear hx HC10
    obtain ⟨⟨j11, o11⟩, hR11⟩ : ∃ r : Nat × Option Tok, takeP L (isTypeW (tk L (i)).text) (i) = r := ⟨_, rfl⟩
    have ha11 := adv_take (L := L) (i := i) (may := isTypeW (tk L (i)).text) (by omega) type_lt
    have HC11 := hide (typeWord_any (unhide HS10).pe (by omega) (by omega))
    rw [hR11] at ha11 HC11 HQ
    clear hR11
    cases o11 with
    | none =>
      have HQn : Hid (R = (j11, none)) := (unhide HQ).symm
      go_wp2_with fail
      refine (unhide HC11).mono ?_
      rintro e w11 ⟨hs, rfl⟩
      have HSn := hide ((unhide HS10).trans hs)
      clear hs
      go_wp2
      exact ⟨rfl, RQ.pan (unhide HSn) (unhide HQn)⟩
    | some t11 =>
      have hj11 : i < j11 ∧ j11 ≤ L.length := ⟨ha11.2 rfl, ha11.1.2⟩
      rw [bnd_some (r := (j11, some t11)) rfl] at HQ
      clear ha11
      go_wp2_with fail
      refine (unhide HC11).mono ?_
      rintro e w11 ⟨hs, rfl⟩
      have HS11 := hide ((unhide HS10).trans hs)
      have hz11 : w.heap.size ≤ w11.heap.size := (unhide HS11).out.size
      have hy11 : w10.heap.size ≤ w11.heap.size := hs.out.size
      have N11 := hide ((unhide N10).out hs.out (by omega))
      clear N10
      clear hs HC11
      have q12 := (unhide N11).blk.cell (i := 1) rfl
      have fq12 := fun j => (unhide N11).blk.free j
      obtain ⟨w12, hw12⟩ : ∃ w12, w12 = w11.setCell ⟨xb, 1, none⟩ (.string ⟨t11.text.toArray⟩) := ⟨_, rfl⟩
      have HZ12 : Hid (w11.heap.size = w12.heap.size) := by show w11.heap.size = w12.heap.size; rw [hw12]; simp
      have N12 := hide ((unhide N11).setType t11.text)
      have HS12 := hide (St.set (c := 1) (v := .string ⟨t11.text.toArray⟩) (unhide HP) (unhide HS11) hxw)
      rw [← hw12] at N12 HS12
      have hz12 : w.heap.size ≤ w12.heap.size := (unhide HS12).out.size
      clear N11
      obtain ⟨⟨j13, o13⟩, hR13⟩ : ∃ r : Rl, sevP L (varP L rec) (j11) = r := ⟨_, rfl⟩
      have ha13 := adv_sev (L := L) (rule := varP L rec) (i := j11) (fun k h1 h2 => adv_var (unhide HVV) h2) (by omega)
      have HC13 := hide (several_any 85 (varP L rec) (unhide HS12).pe (by omega) hL ⟨variableEnters, fun k wk h1 h2 hk => variable_any (unhide HH) (unhide HVV) (by omega) hk h2 hL, fun k h1 h2 => adv_var (unhide HVV) h2⟩)
      rw [hR13] at ha13 HC13 HQ
      clear hR13
      cases o13 with
      | none =>
        have HQn : Hid (R = (j13, none)) := (unhide HQ).symm
        go_wp2_with fail
        rw [← hw12]
        first | rw [unhide HZ12] | skip
        clear hw12 q12 fq12
        refine (unhide HC13).mono ?_
        rintro e w13 ⟨hs, rfl⟩
        have HSn := hide ((unhide HS12).trans hs)
        clear hs
        go_wp2
        exact ⟨rfl, RQ.pan (unhide HSn) (unhide HQn)⟩
      | some l13 =>
        have hj13 : j11 < j13 ∧ j13 ≤ L.length := ⟨ha13.2 rfl, ha13.1.2⟩
        rw [bnd_some (r := (j13, some l13)) rfl] at HQ
        clear ha13
        have hxl : xb < w12.heap.size := (unhide N12).blk.lt
        go_wp2_with fail
        rw [← hw12]
        first | rw [unhide HZ12] | skip
        clear hw12 q12 fq12
        refine (unhide HC13).mono ?_
        rintro e w13 ⟨hs, ao, cap, rfl, hp⟩
        have HS13 := hide ((unhide HS12).trans hs)
        have hz13 : w.heap.size ≤ w13.heap.size := (unhide HS13).out.size
        have hy13 : w12.heap.size ≤ w13.heap.size := hs.out.size
        have N13 := hide ((unhide N12).out hs.out (by omega))
        clear N12
        clear hs HC13
        have PR13 := hide hp
        clear hp
        have q14 := (unhide N13).blk.cell (i := 6) rfl
        have fq14 := fun j => (unhide N13).blk.free j
        obtain ⟨w14, hw14⟩ : ∃ w14, w14 = w13.setCell ⟨xb, 6, none⟩ (.slice ao l13.length cap) := ⟨_, rfl⟩
        have HZ14 : Hid (w13.heap.size = w14.heap.size) := by show w13.heap.size = w14.heap.size; rw [hw14]; simp
        have N14 := hide ((unhide N13).setKids (((unhide PR13).imp (X' := fun b => b = xb) (fun m e => .inr (.inr (by omega)))).wide (by omega) (Nat.le_refl _) (Nat.le_refl _)) (fun m e => by have := (unhide PR13).ge m e; omega))
        have HS14 := hide (St.set (c := 6) (v := .slice ao l13.length cap) (unhide HP) (unhide HS13) hxw)
        rw [← hw14] at N14 HS14
        have hz14 : w.heap.size ≤ w14.heap.size := (unhide HS14).out.size
        clear N13 PR13
        obtain ⟨⟨j15, o15⟩, hR15⟩ : ∃ r : Nat × Option Unit, needP L [[59]] (j13) = r := ⟨_, rfl⟩
        have ha15 := lea_need (L := L) [[59]] (i := j13) (by omega) (by decide)
        have HC15 := hide (need_at [[59]] #[.string ⟨#[59]⟩] rfl (unhide HS14).pe (by simp) (by omega) (by omega))
        rw [hR15] at ha15 HC15 HQ
        clear hR15
        cases o15 with
        | none =>
          have HQn : Hid (R = (j15, none)) := (unhide HQ).symm
          go_wp2_with fail
          rw [← hw14]
          first | rw [unhide HZ14] | skip
          clear hw14 q14 fq14
          refine (unhide HC15).mono ?_
          rintro e w15 ⟨hs, rfl⟩
          have HSn := hide ((unhide HS14).trans hs)
          clear hs
          go_wp2
          exact ⟨rfl, RQ.pan (unhide HSn) (unhide HQn)⟩
        | some u15 =>
          have hj15 : j13 ≤ j15 ∧ j15 ≤ L.length := ha15
          rw [bnd_some (r := (j15, some u15)) rfl] at HQ
          clear ha15
          go_wp2_with fail
          rw [← hw14]
          first | rw [unhide HZ14] | skip
          clear hw14 q14 fq14
          refine (unhide HC15).mono ?_
          rintro e w15 ⟨hs, rfl⟩
          have HS15 := hide ((unhide HS14).trans hs)
          have hz15 : w.heap.size ≤ w15.heap.size := (unhide HS15).out.size
          have hy15 : w14.heap.size ≤ w15.heap.size := hs.out.size
          have N15 := hide ((unhide N14).out hs.out (by omega))
          clear N14
          clear hs HC15
          go_wp2
          go_ret
          exact RQ.ok (unhide HS15) (unhide N15).part ((unhide HQ).symm)

set_option maxHeartbeats 1000000 in
set_option maxRecDepth 100000 in
theorem param_any (h : PE w pb L tv lv i) (hi : i ≤ L.length) (hL : L.length ≤ 100000000) :
    Calls Tryz.prog 82 #[.pointer (some ⟨pb, 0, none⟩)] w (RQ w pb L tv lv w.heap.size (paramP L i)) := by
  have HP := hide h
  have hpb := h.lt
  obtain ⟨R, hR⟩ : ∃ R, paramP L i = R := ⟨_, rfl⟩
  rw [hR]
  unfold paramP at hR
  have HQ := hide hR
  have HS0 := hide (St.of h (Ext.refl w))
  have hmf : ∀ (fn : Fn) (first cap : Array Value) (w : World), (Instr.makeFunc fn first cap).run Tryz.prog w = .ok (.func fn first cap) w := fun _ _ _ _ => rfl
  have g0 := fld0
  have g1 := fld1
  have g2 := fld2
  clear hR h
  go_enter Tryz.func82, Tryz.ntmps82
  obtain ⟨⟨j1, o1⟩, hR1⟩ : ∃ r : Nat × Option Tok, takeP L (isTypeW (tk L (i)).text) (i) = r := ⟨_, rfl⟩
  have ha1 := adv_take (L := L) (i := i) (may := isTypeW (tk L (i)).text) (by omega) type_lt
  have HC1 := hide (typeWord_any (unhide HS0).pe (by omega) (by omega))
  rw [hR1] at ha1 HC1 HQ
  clear hR1
  cases o1 with
  | none =>
    have HQn : Hid (R = (j1, none)) := (unhide HQ).symm
    go_wp2_with fail
    refine (unhide HC1).mono ?_
    rintro e w1 ⟨hs, rfl⟩
    have HSn := hide ((unhide HS0).trans hs)
    clear hs
    go_wp2
    exact ⟨rfl, RQ.pan (unhide HSn) (unhide HQn)⟩
  | some t1 =>
    have hj1 : i < j1 ∧ j1 ≤ L.length := ⟨ha1.2 rfl, ha1.1.2⟩
    rw [bnd_some (r := (j1, some t1)) rfl] at HQ
    clear ha1
    go_wp2_with fail
    refine (unhide HC1).mono ?_
    rintro e w1 ⟨hs, rfl⟩
    have HS1 := hide ((unhide HS0).trans hs)
    have hz1 : w.heap.size ≤ w1.heap.size := (unhide HS1).out.size
    clear hs HC1
    have HC2 := hide (begin_any 5 none 0 0 (unhide HS1).pe (by omega) (by omega))
    go_wp2_with fail
    refine (unhide HC2).mono ?_
    rintro e w2 ⟨xb, rfl, hxb, hB, hx⟩
    have hxw : w.heap.size ≤ xb := by omega
    have HS2 := hide ((unhide HS1).ext hx)
    have hz2 : w.heap.size ≤ w2.heap.size := (unhide HS2).out.size
    have hy2 : w1.heap.size ≤ w2.heap.size := hx.size
    clear hx HC2
    have N2 : Hid (ND w2 w.heap.size w.heap.size xb 5 [] [] 0 (tk L (j1)).place (.slice none 0 0) []) := ND.new hB hxw
    clear hB
    obtain ⟨⟨j3, o3⟩, hR3⟩ : ∃ r : Nat × Option Tok, takeP L (isNm L (j1)) (j1) = r := ⟨_, rfl⟩
    have ha3 := adv_take (L := L) (i := j1) (may := isNm L (j1)) (by omega) name_lt
    have HC3 := hide (name_any (unhide HS2).pe (by omega) (by omega))
    rw [hR3] at ha3 HC3 HQ
    clear hR3
    cases o3 with
    | none =>
      have HQn : Hid (R = (j3, none)) := (unhide HQ).symm
      go_wp2_with fail
      refine (unhide HC3).mono ?_
      rintro e w3 ⟨hs, rfl⟩
      have HSn := hide ((unhide HS2).trans hs)
      clear hs
      go_wp2
      exact ⟨rfl, RQ.pan (unhide HSn) (unhide HQn)⟩
    | some t3 =>
      have hj3 : j1 < j3 ∧ j3 ≤ L.length := ⟨ha3.2 rfl, ha3.1.2⟩
      rw [bnd_some (r := (j3, some t3)) rfl] at HQ
      clear ha3
      go_wp2_with fail
      refine (unhide HC3).mono ?_
      rintro e w3 ⟨hs, rfl⟩
      have HS3 := hide ((unhide HS2).trans hs)
      have hz3 : w.heap.size ≤ w3.heap.size := (unhide HS3).out.size
      have hy3 : w2.heap.size ≤ w3.heap.size := hs.out.size
      have N3 := hide ((unhide N2).out hs.out (by omega))
      clear N2
      clear hs HC3
      have q4 := (unhide N3).blk.cell (i := 1) rfl
      have fq4 := fun j => (unhide N3).blk.free j
      obtain ⟨w4, hw4⟩ : ∃ w4, w4 = w3.setCell ⟨xb, 1, none⟩ (.string ⟨t1.text.toArray⟩) := ⟨_, rfl⟩
      have HZ4 : Hid (w3.heap.size = w4.heap.size) := by show w3.heap.size = w4.heap.size; rw [hw4]; simp
      have N4 := hide ((unhide N3).setType t1.text)
      have HS4 := hide (St.set (c := 1) (v := .string ⟨t1.text.toArray⟩) (unhide HP) (unhide HS3) hxw)
      rw [← hw4] at N4 HS4
      have hz4 : w.heap.size ≤ w4.heap.size := (unhide HS4).out.size
      clear N3
      have q5 := (unhide N4).blk.cell (i := 2) rfl
      have fq5 := fun j => (unhide N4).blk.free j
      rw [hw4] at q5 fq5
      obtain ⟨w5, hw5⟩ : ∃ w5, w5 = w4.setCell ⟨xb, 2, none⟩ (.string ⟨t3.text.toArray⟩) := ⟨_, rfl⟩
      have HZ5 : Hid (w4.heap.size = w5.heap.size) := by show w4.heap.size = w5.heap.size; rw [hw5]; simp
      have N5 := hide ((unhide N4).setText t3.text)
      have HS5 := hide (St.set (c := 2) (v := .string ⟨t3.text.toArray⟩) (unhide HP) (unhide HS4) hxw)
      rw [← hw5] at N5 HS5
      have hz5 : w.heap.size ≤ w5.heap.size := (unhide HS5).out.size
      clear N4
      go_wp2
      rw [← hw4]
      first | rw [unhide HZ4] | skip
      rw [← hw5]
      first | rw [unhide HZ5] | skip
      clear hw4 q4 fq4
      clear hw5 q5 fq5
      go_ret
      exact RQ.ok (unhide HS5) (unhide N5).part ((unhide HQ).symm)

set_option maxHeartbeats 1000000 in
set_option maxRecDepth 100000 in
theorem bound_any (HTO : TokOk L) (h : PE w pb L tv lv i) (hi : i ≤ L.length) (hL : L.length ≤ 100000000) :
    Calls Tryz.prog 109 #[.pointer (some ⟨pb, 0, none⟩)] w (RQ w pb L tv lv w.heap.size (boundP L i)) := by
  have HP := hide h
  have hpb := h.lt
  obtain ⟨R, hR⟩ : ∃ R, boundP L i = R := ⟨_, rfl⟩
  rw [hR]
  unfold boundP at hR
  have HQ := hide hR
  have HS0 := hide (St.of h (Ext.refl w))
  have hmf : ∀ (fn : Fn) (first cap : Array Value) (w : World), (Instr.makeFunc fn first cap).run Tryz.prog w = .ok (.func fn first cap) w := fun _ _ _ _ => rfl
  have g0 := fld0
  have g1 := fld1
  have g2 := fld2
  clear hR h
  have HTK := hide HTO
  clear HTO
  go_enter Tryz.func109, Tryz.ntmps109
  have HC1 := hide (begin_any 20 none 0 0 (unhide HS0).pe (by omega) (by omega))
  go_wp2_with fail
  refine (unhide HC1).mono ?_
  rintro e w1 ⟨xb, rfl, hxb, hB, hx⟩
  have hxw : w.heap.size ≤ xb := by omega
  have HS1 := hide ((unhide HS0).ext hx)
  have hz1 : w.heap.size ≤ w1.heap.size := (unhide HS1).out.size
  clear hx HC1
  have N1 : Hid (ND w1 w.heap.size w.heap.size xb 20 [] [] 0 (tk L (i)).place (.slice none 0 0) []) := ND.new hB hxw
  clear hB
  by_cases ht : (tk L (i)).text = [45]
  · rw [if_pos ht] at HQ
    have hlt := text_lt ht (by decide)
    have HC2 := hide (skip_yes [45] (unhide HS1).pe ht (by omega) (by omega))
    clear ht
    go_wp2_with fail
    refine (unhide HC2).mono ?_
    rintro e w2 ⟨rfl, hs⟩
    have HS2 := hide ((unhide HS1).trans hs)
    have hz2 : w.heap.size ≤ w2.heap.size := (unhide HS2).out.size
    have hy2 : w1.heap.size ≤ w2.heap.size := hs.out.size
    have N2 := hide ((unhide N1).out hs.out (by omega))
    clear N1
    clear hs HC2
    unfold boundR at HQ
    by_cases hk : (tk L (i + 1)).kind = 2
    · have hlt : i + 1 < L.length := tk_lt (.inr (by rw [hk]; decide))
      rw [decide_eq_true hk, show takeP L true (i + 1) = (i + 1 + 1, some (tk L (i + 1))) from rfl, bnd_some rfl] at HQ
      have f2 : ((tk L (i + 1)).kind == 2) = true := by rw [hk]; rfl
      clear hk
      have HC3 := hide (ahead0 (unhide HS2).pe (by omega) (by omega))
      go_wp2_with fail
      refine (unhide HC3).mono ?_
      rintro e w3 ⟨rfl, hx⟩
      have HS3 := hide ((unhide HS2).ext hx)
      have hz3 : w.heap.size ≤ w3.heap.size := (unhide HS3).out.size
      have hy3 : w2.heap.size ≤ w3.heap.size := hx.size
      have N3 := hide ((unhide N2).ext hx)
      clear N2
      clear hx HC3
      have HC4 := hide (take_ok (unhide HS3).pe (by omega) (by omega))
      go_wp2_with fail
      refine (unhide HC4).mono ?_
      rintro e w4 ⟨rfl, hs⟩
      have HS4 := hide ((unhide HS3).trans hs)
      have hz4 : w.heap.size ≤ w4.heap.size := (unhide HS4).out.size
      have hy4 : w3.heap.size ≤ w4.heap.size := hs.out.size
      have N4 := hide ((unhide N3).out hs.out (by omega))
      clear N3
      clear hs HC4
      have q5 := (unhide N4).blk.cell (i := 3) rfl
      have fq5 := fun j => (unhide N4).blk.free j
      obtain ⟨w5, hw5⟩ : ∃ w5, w5 = w4.setCell ⟨xb, 3, none⟩ (.int .i32 (tk L (i + 1)).num) := ⟨_, rfl⟩
      have HZ5 : Hid (w4.heap.size = w5.heap.size) := by show w4.heap.size = w5.heap.size; rw [hw5]; simp
      have N5 := hide ((unhide N4).setNum (tk L (i + 1)).num)
      have HS5 := hide (St.set (c := 3) (v := .int .i32 (tk L (i + 1)).num) (unhide HP) (unhide HS4) hxw)
      rw [← hw5] at N5 HS5
      have hz5 : w.heap.size ≤ w5.heap.size := (unhide HS5).out.size
      clear N4
      have HC6 := hide (neg_any (tk L (i + 1)).num w5 (unhide HTK (i + 1)).1)
      go_wp2_with fail
      rw [← hw5]
      first | rw [unhide HZ5] | skip
      clear hw5 q5 fq5
      refine (unhide HC6).mono ?_
      rintro e wq ⟨rfl, hwq⟩
      rw [hwq]
      clear hwq HC6
      have q7 := (unhide N5).blk.cell (i := 3) rfl
      have fq7 := fun j => (unhide N5).blk.free j
      obtain ⟨w7, hw7⟩ : ∃ w7, w7 = w5.setCell ⟨xb, 3, none⟩ (.int .i32 (negI (tk L (i + 1)).num)) := ⟨_, rfl⟩
      have HZ7 : Hid (w5.heap.size = w7.heap.size) := by show w5.heap.size = w7.heap.size; rw [hw7]; simp
      have N7 := hide ((unhide N5).setNum (negI (tk L (i + 1)).num))
      have HS7 := hide (St.set (c := 3) (v := .int .i32 (negI (tk L (i + 1)).num)) (unhide HP) (unhide HS5) hxw)
      rw [← hw7] at N7 HS7
      have hz7 : w.heap.size ≤ w7.heap.size := (unhide HS7).out.size
      clear N5
      go_wp2
      rw [← hw7]
      first | rw [unhide HZ7] | skip
      clear hw7 q7 fq7
      go_ret
      exact RQ.ok (unhide HS7) (unhide N7).part ((unhide HQ).symm)
    · rw [decide_eq_false hk, show takeP L false (i + 1) = (i + 1, none) from rfl, bnd_none rfl] at HQ
      have HQn := hide (unhide HQ).symm
      have f2 : ((tk L (i + 1)).kind == 2) = false := beq_eq_false_iff_ne.2 hk
      clear hk
      have HC8 := hide (ahead0 (unhide HS2).pe (by omega) (by omega))
      go_wp2_with fail
      refine (unhide HC8).mono ?_
      rintro e w8 ⟨rfl, hx⟩
      have HS8 := hide ((unhide HS2).ext hx)
      have hz8 : w.heap.size ≤ w8.heap.size := (unhide HS8).out.size
      have hy8 : w2.heap.size ≤ w8.heap.size := hx.size
      have N8 := hide ((unhide N2).ext hx)
      clear N2
      clear hx HC8
      have HC9 := hide (take_no (unhide HS8).pe)
      go_wp2_with fail
      refine (unhide HC9).mono ?_
      rintro e w9 ⟨rfl, hx⟩
      have HSn := hide ((unhide HS8).ext hx)
      clear hx
      go_wp2
      exact ⟨rfl, RQ.pan (unhide HSn) (unhide HQn)⟩
  · rw [if_neg ht] at HQ
    have HC10 := hide (skip_no [45] (unhide HS1).pe ht (by omega) (by omega))
    clear ht
    go_wp2_with fail
    refine (unhide HC10).mono ?_
    rintro e w10 ⟨rfl, hx⟩
    have HS10 := hide ((unhide HS1).ext hx)
    have hz10 : w.heap.size ≤ w10.heap.size := (unhide HS10).out.size
    have hy10 : w1.heap.size ≤ w10.heap.size := hx.size
    have N10 := hide ((unhide N1).ext hx)
    clear N1
    clear hx HC10
    unfold boundR at HQ
    by_cases hk : (tk L (i)).kind = 2
    · have hlt : i < L.length := tk_lt (.inr (by rw [hk]; decide))
      rw [decide_eq_true hk, show takeP L true (i) = (i + 1, some (tk L (i))) from rfl, bnd_some rfl] at HQ
      have f2 : ((tk L (i)).kind == 2) = true := by rw [hk]; rfl
      clear hk
      have HC11 := hide (ahead0 (unhide HS10).pe (by omega) (by omega))
      go_wp2_with fail
      refine (unhide HC11).mono ?_
      rintro e w11 ⟨rfl, hx⟩
      have HS11 := hide ((unhide HS10).ext hx)
      have hz11 : w.heap.size ≤ w11.heap.size := (unhide HS11).out.size
      have hy11 : w10.heap.size ≤ w11.heap.size := hx.size
      have N11 := hide ((unhide N10).ext hx)
      clear N10
      clear hx HC11
      have HC12 := hide (take_ok (unhide HS11).pe (by omega) (by omega))
      go_wp2_with fail
      refine (unhide HC12).mono ?_
      rintro e w12 ⟨rfl, hs⟩
      have HS12 := hide ((unhide HS11).trans hs)
      have hz12 : w.heap.size ≤ w12.heap.size := (unhide HS12).out.size
      have hy12 : w11.heap.size ≤ w12.heap.size := hs.out.size
      have N12 := hide ((unhide N11).out hs.out (by omega))
      clear N11
      clear hs HC12
      have q13 := (unhide N12).blk.cell (i := 3) rfl
      have fq13 := fun j => (unhide N12).blk.free j
      obtain ⟨w13, hw13⟩ : ∃ w13, w13 = w12.setCell ⟨xb, 3, none⟩ (.int .i32 (tk L (i)).num) := ⟨_, rfl⟩
      have HZ13 : Hid (w12.heap.size = w13.heap.size) := by show w12.heap.size = w13.heap.size; rw [hw13]; simp
      have N13 := hide ((unhide N12).setNum (tk L (i)).num)
      have HS13 := hide (St.set (c := 3) (v := .int .i32 (tk L (i)).num) (unhide HP) (unhide HS12) hxw)
      rw [← hw13] at N13 HS13
      have hz13 : w.heap.size ≤ w13.heap.size := (unhide HS13).out.size
      clear N12
      go_wp2
      rw [← hw13]
      first | rw [unhide HZ13] | skip
      clear hw13 q13 fq13
      go_ret
      exact RQ.ok (unhide HS13) (unhide N13).part ((unhide HQ).symm)
    · rw [decide_eq_false hk, show takeP L false (i) = (i, none) from rfl, bnd_none rfl] at HQ
      have HQn := hide (unhide HQ).symm
      have f2 : ((tk L (i)).kind == 2) = false := beq_eq_false_iff_ne.2 hk
      clear hk
      have HC14 := hide (ahead0 (unhide HS10).pe (by omega) (by omega))
      go_wp2_with fail
      refine (unhide HC14).mono ?_
      rintro e w14 ⟨rfl, hx⟩
      have HS14 := hide ((unhide HS10).ext hx)
      have hz14 : w.heap.size ≤ w14.heap.size := (unhide HS14).out.size
      have hy14 : w10.heap.size ≤ w14.heap.size := hx.size
      have N14 := hide ((unhide N10).ext hx)
      clear N10
      clear hx HC14
      have HC15 := hide (take_no (unhide HS14).pe)
      go_wp2_with fail
      refine (unhide HC15).mono ?_
      rintro e w15 ⟨rfl, hx⟩
      have HSn := hide ((unhide HS14).ext hx)
      clear hx
      go_wp2
      exact ⟨rfl, RQ.pan (unhide HSn) (unhide HQn)⟩

end
end Go.Proofs.YtjfhhhabcbkahaaGreat
