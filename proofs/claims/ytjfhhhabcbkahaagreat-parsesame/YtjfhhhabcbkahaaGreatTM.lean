/-
  Rules: the first of an expression, fields, what stands ahead of it.
-/
import Derived.Test.YtjfhhhabcbkahaaGreatTL
namespace Go.Proofs.YtjfhhhabcbkahaaGreat
open Go.RowKit
set_option linter.unusedVariables false
set_option linter.unusedSimpArgs false
section
variable {w : World} {pb : Nat} {L : List Tok} {tv lv : Value} {i : Nat}

set_option maxHeartbeats 800000 in
set_option maxRecDepth 100000 in
theorem first_step {rec : Nat → Nat → Rp} {f : Nat} (H : Ctr pb L tv lv rec f) (HV : AdvA L rec) (hm : 20 * (L.length - i) + 2 ≤ f + 1) (h : PE w pb L tv lv i) (hi : i ≤ L.length) (hL : L.length ≤ 100000000) :
    Calls Tryz.prog 93 #[.pointer (some ⟨pb, 0, none⟩)] w (RQ w pb L tv lv w.heap.size (firstP L rec i)) := by
  have HH := hide H
  have HVV := hide HV
  clear H HV
  have HP := hide h
  have hpb := h.lt
  obtain ⟨R, hR⟩ : ∃ R, firstP L rec i = R := ⟨_, rfl⟩
  rw [hR]
  unfold firstP at hR
  have HQ := hide hR
  have HS0 := hide (St.of h (Ext.refl w))
  have hmf : ∀ (fn : Fn) (first cap : Array Value) (w : World), (Instr.makeFunc fn first cap).run Tryz.prog w = .ok (.func fn first cap) w := fun _ _ _ _ => rfl
  have g0 := fld0
  have g1 := fld1
  have g2 := fld2
  clear hR h
  go_enter Tryz.func93, Tryz.ntmps93
  have HC1 := hide (ahead0 (unhide HS0).pe (by omega) (by omega))
  go_wp2_with fail
  refine (unhide HC1).mono ?_
  rintro e w1 ⟨rfl, hx0⟩
  have hx := hx0.alloc (.cells #[.int .i64 (tk L i).kind, .string ⟨(tk L i).text.toArray⟩, .int .i32 (tk L i).num, .int .i64 (tk L i).place, .int .i64 (tk L i).line] 44)
  obtain ⟨tb, htb⟩ : ∃ tb, tb = w1.heap.size := ⟨_, rfl⟩
  obtain ⟨wa, hwa⟩ : ∃ wa, wa = w1.alloc (.cells #[.int .i64 (tk L i).kind, .string ⟨(tk L i).text.toArray⟩, .int .i32 (tk L i).num, .int .i64 (tk L i).place, .int .i64 (tk L i).line] 44) := ⟨_, rfl⟩
  have HB : Hid (Blk wa tb #[.int .i64 (tk L i).kind, .string ⟨(tk L i).text.toArray⟩, .int .i32 (tk L i).num, .int .i64 (tk L i).place, .int .i64 (tk L i).line] 44) := by rw [hwa, htb]; exact Blk.new _ _ _
  rw [← hwa] at hx
  have HSa := hide ((unhide HS0).ext hx)
  have hza : w.heap.size ≤ wa.heap.size := hx.size
  have hzt : w.heap.size ≤ tb := by rw [htb]; exact hx0.size
  have HWA := hide hwa
  have HTB := hide htb
  have HWS : Hid (wa.heap.size = tb + 1) := by show wa.heap.size = tb + 1; rw [hwa, htb]; simp
  have k0 := (unhide HB).cell (i := 0) (v := .int .i64 (tk L i).kind) rfl
  have k1 := (unhide HB).cell (i := 1) (v := .string ⟨(tk L i).text.toArray⟩) rfl
  rw [unhide HWA, unhide HTB] at k0 k1
  clear hx hx0 HC1 hwa htb
  by_cases t1 : (tk L i).text = [40]
  · rw [if_pos t1] at HQ
    have hlt := text_lt t1 (by decide)
    have f1 : ((tk L i).text == [40]) = true := by rw [t1]; rfl
    have HN1 : Hid (needP L [[40]] i = (i + 1, some ())) := by show needP L [[40]] i = _; rw [needP, if_pos t1, needP]
    have HC0 := need_at [[40]] #[.string ⟨#[40]⟩] rfl (unhide HSa).pe (by simp) (by omega) (by omega)
    rw [unhide HN1] at HC0
    have HC2 := hide HC0
    clear HC0 t1
    go_wp2_with fail
    rw [← unhide HWA, ← unhide HTB]
    first | rw [← unhide HWS] | skip
    clear k0 k1
    refine (unhide HC2).mono ?_
    rintro e w2 ⟨hs, rfl⟩
    have HS2 := hide ((unhide HSa).trans hs)
    have hz2 : w.heap.size ≤ w2.heap.size := (unhide HS2).out.size
    have hy2 : wa.heap.size ≤ w2.heap.size := hs.out.size
    clear hs HC2
    obtain ⟨⟨j3, o3⟩, hR3⟩ : ∃ r : Rp, rec 0 (i + 1) = r := ⟨_, rfl⟩
    have ha3 := unhide HVV 0 (i + 1) (by omega)
    have HC3 := hide (unhide HH 0 (i + 1) w2 (by decide) (show 20 * (L.length - (i + 1)) + 12 ≤ f by omega) (by omega) (unhide HS2).pe)
    rw [hR3] at ha3 HC3 HQ
    clear hR3
    cases o3 with
    | none =>
      have HQn : Hid (R = (j3, none)) := (unhide HQ).symm
      go_wp2_with fail
      refine (unhide HC3).mono ?_
      rintro e w3 ⟨hs, rfl⟩
      have HSn := hide ((unhide HS2).trans hs)
      clear hs
      go_wp2
      exact ⟨rfl, RQ.pan (unhide HSn) (unhide HQn)⟩
    | some x3 =>
      have hj3 : i + 1 < j3 ∧ j3 ≤ L.length := ⟨ha3.2 rfl, ha3.1.2⟩
      rw [bnd_some (r := (j3, some x3)) rfl] at HQ
      clear ha3
      go_wp2_with fail
      refine (unhide HC3).mono ?_
      rintro e w3 ⟨hs, b3, rfl, hp⟩
      have HS3 := hide ((unhide HS2).trans hs)
      have hz3 : w.heap.size ≤ w3.heap.size := (unhide HS3).out.size
      have hy3 : w2.heap.size ≤ w3.heap.size := hs.out.size
      clear hs HC3
      have P3 := hide hp
      clear hp
      obtain ⟨⟨j4, o4⟩, hR4⟩ : ∃ r : Nat × Option Unit, needP L [[41]] (j3) = r := ⟨_, rfl⟩
      have ha4 := lea_need (L := L) [[41]] (i := j3) (by omega) (by decide)
      have HC4 := hide (need_at [[41]] #[.string ⟨#[41]⟩] rfl (unhide HS3).pe (by simp) (by omega) (by omega))
      rw [hR4] at ha4 HC4 HQ
      clear hR4
      cases o4 with
      | none =>
        have HQn : Hid (R = (j4, none)) := (unhide HQ).symm
        go_wp2_with fail
        refine (unhide HC4).mono ?_
        rintro e w4 ⟨hs, rfl⟩
        have HSn := hide ((unhide HS3).trans hs)
        clear hs
        go_wp2
        exact ⟨rfl, RQ.pan (unhide HSn) (unhide HQn)⟩
      | some u4 =>
        have hj4 : j3 ≤ j4 ∧ j4 ≤ L.length := ha4
        rw [bnd_some (r := (j4, some u4)) rfl] at HQ
        clear ha4
        go_wp2_with fail
        refine (unhide HC4).mono ?_
        rintro e w4 ⟨hs, rfl⟩
        have HS4 := hide ((unhide HS3).trans hs)
        have hz4 : w.heap.size ≤ w4.heap.size := (unhide HS4).out.size
        have hy4 : w3.heap.size ≤ w4.heap.size := hs.out.size
        have P34 := hide ((unhide P3).out hs.out (fun m h1 h2 e => by omega))
        clear P3
        clear hs HC4
        go_wp2
        go_ret
        exact RQ.ok (unhide HS4) ((unhide P34).wide (by omega) (unhide P34).top (Nat.le_refl _)) ((unhide HQ).symm)
  · rw [if_neg t1] at HQ
    have f1 : ((tk L i).text == [40]) = false := beq_eq_false_iff_ne.2 t1
    clear t1
    by_cases t2 : (tk L i).kind = 2
    · rw [if_pos t2] at HQ
      have hlt : i < L.length := tk_lt (.inr (by rw [t2]; decide))
      have f2 : ((tk L i).kind == 2) = true := by rw [t2]; rfl
      clear t2
      have HC5 := hide (numberK_any 20 (unhide HSa).pe (by omega) hL)
      go_wp2_with fail
      rw [← unhide HWA, ← unhide HTB]
      first | rw [← unhide HWS] | skip
      clear k0 k1
      refine (unhide HC5).mono ?_
      rintro e w5 ⟨hs, b5, rfl, hp⟩
      have HS5 := hide ((unhide HSa).trans hs)
      have hz5 : w.heap.size ≤ w5.heap.size := (unhide HS5).out.size
      have hy5 : wa.heap.size ≤ w5.heap.size := hs.out.size
      clear hs HC5
      have P5 := hide hp
      clear hp
      go_wp2
      go_ret
      exact RQ.ok (unhide HS5) ((unhide P5).wide (by omega) (unhide P5).top (Nat.le_refl _)) ((unhide HQ).symm)
    · rw [if_neg t2] at HQ
      have f2 : ((tk L i).kind == 2) = false := beq_eq_false_iff_ne.2 t2
      clear t2
      by_cases t3 : (tk L i).kind = 3
      · rw [if_pos t3] at HQ
        have hlt : i < L.length := tk_lt (.inr (by rw [t3]; decide))
        have f3 : ((tk L i).kind == 3) = true := by rw [t3]; rfl
        clear t3
        have HC6 := hide (numberK_any 21 (unhide HSa).pe (by omega) hL)
        go_wp2_with fail
        rw [← unhide HWA, ← unhide HTB]
        first | rw [← unhide HWS] | skip
        clear k0 k1
        refine (unhide HC6).mono ?_
        rintro e w6 ⟨hs, b6, rfl, hp⟩
        have HS6 := hide ((unhide HSa).trans hs)
        have hz6 : w.heap.size ≤ w6.heap.size := (unhide HS6).out.size
        have hy6 : wa.heap.size ≤ w6.heap.size := hs.out.size
        clear hs HC6
        have P6 := hide hp
        clear hp
        go_wp2
        go_ret
        exact RQ.ok (unhide HS6) ((unhide P6).wide (by omega) (unhide P6).top (Nat.le_refl _)) ((unhide HQ).symm)
      · rw [if_neg t3] at HQ
        have f3 : ((tk L i).kind == 3) = false := beq_eq_false_iff_ne.2 t3
        clear t3
        by_cases t4 : (tk L i).text = [116, 114, 117, 101] ∨ (tk L i).text = [102, 97, 108, 115, 101]
        · rw [if_pos t4] at HQ
          have hlt : i < L.length := by rcases t4 with t | t <;> exact text_lt t (by decide)
          rcases t4 with t | t
          · have f5 : ((tk L i).text == [116, 114, 117, 101]) = true := by rw [t]; rfl
            clear t
            have HC7 := hide (begin_any 22 none 0 0 (unhide HSa).pe (by omega) (by omega))
            go_wp2_with fail
            rw [← unhide HWA, ← unhide HTB]
            refine (unhide HC7).mono ?_
            rintro e w7 ⟨xb, rfl, hxb, hB, hx⟩
            have hxw : w.heap.size ≤ xb := by omega
            have HS7 := hide ((unhide HSa).ext hx)
            have hz7 : w.heap.size ≤ w7.heap.size := (unhide HS7).out.size
            have hy7 : wa.heap.size ≤ w7.heap.size := hx.size
            clear hx HC7
            have N7 : Hid (ND w7 w.heap.size w.heap.size xb 22 [] [] 0 (tk L (i)).place (.slice none 0 0) []) := ND.new hB hxw
            clear hB
            have HC8 := hide (take_ok (unhide HS7).pe (by omega) (by omega))
            go_wp2_with fail
            refine (unhide HC8).mono ?_
            rintro e w8 ⟨rfl, hs⟩
            have HS8 := hide ((unhide HS7).trans hs)
            have hz8 : w.heap.size ≤ w8.heap.size := (unhide HS8).out.size
            have hy8 : w7.heap.size ≤ w8.heap.size := hs.out.size
            have N8 := hide ((unhide N7).out hs.out (by omega))
            clear N7
            clear hs HC8
            have q9 := (unhide N8).blk.cell (i := 2) rfl
            have fq9 := fun j => (unhide N8).blk.free j
            obtain ⟨w9, hw9⟩ : ∃ w9, w9 = w8.setCell ⟨xb, 2, none⟩ (.string ⟨(tk L i).text.toArray⟩) := ⟨_, rfl⟩
            have N9 := hide ((unhide N8).setText (tk L i).text)
            have HS9 := hide (St.set (c := 2) (v := .string ⟨(tk L i).text.toArray⟩) (unhide HP) (unhide HS8) hxw)
            rw [← hw9] at N9 HS9
            have hz9 : w.heap.size ≤ w9.heap.size := (unhide HS9).out.size
            clear N8
            go_wp2
            rw [← hw9]
            clear hw9 q9 fq9
            go_ret
            exact RQ.ok (unhide HS9) (unhide N9).part ((unhide HQ).symm)
          · have f4 : ((tk L i).text == [116, 114, 117, 101]) = false := by rw [t]; rfl
            have f5 : ((tk L i).text == [102, 97, 108, 115, 101]) = true := by rw [t]; rfl
            clear t
            have HC10 := hide (begin_any 22 none 0 0 (unhide HSa).pe (by omega) (by omega))
            go_wp2_with fail
            rw [← unhide HWA, ← unhide HTB]
            refine (unhide HC10).mono ?_
            rintro e w10 ⟨xb, rfl, hxb, hB, hx⟩
            have hxw : w.heap.size ≤ xb := by omega
            have HS10 := hide ((unhide HSa).ext hx)
            have hz10 : w.heap.size ≤ w10.heap.size := (unhide HS10).out.size
            have hy10 : wa.heap.size ≤ w10.heap.size := hx.size
            clear hx HC10
            have N10 : Hid (ND w10 w.heap.size w.heap.size xb 22 [] [] 0 (tk L (i)).place (.slice none 0 0) []) := ND.new hB hxw
            clear hB
            have HC11 := hide (take_ok (unhide HS10).pe (by omega) (by omega))
            go_wp2_with fail
            refine (unhide HC11).mono ?_
            rintro e w11 ⟨rfl, hs⟩
            have HS11 := hide ((unhide HS10).trans hs)
            have hz11 : w.heap.size ≤ w11.heap.size := (unhide HS11).out.size
            have hy11 : w10.heap.size ≤ w11.heap.size := hs.out.size
            have N11 := hide ((unhide N10).out hs.out (by omega))
            clear N10
            clear hs HC11
            have q12 := (unhide N11).blk.cell (i := 2) rfl
            have fq12 := fun j => (unhide N11).blk.free j
            obtain ⟨w12, hw12⟩ : ∃ w12, w12 = w11.setCell ⟨xb, 2, none⟩ (.string ⟨(tk L i).text.toArray⟩) := ⟨_, rfl⟩
            have N12 := hide ((unhide N11).setText (tk L i).text)
            have HS12 := hide (St.set (c := 2) (v := .string ⟨(tk L i).text.toArray⟩) (unhide HP) (unhide HS11) hxw)
            rw [← hw12] at N12 HS12
            have hz12 : w.heap.size ≤ w12.heap.size := (unhide HS12).out.size
            clear N11
            go_wp2
            rw [← hw12]
            clear hw12 q12 fq12
            go_ret
            exact RQ.ok (unhide HS12) (unhide N12).part ((unhide HQ).symm)
        · rw [if_neg t4] at HQ
          have f4 : ((tk L i).text == [116, 114, 117, 101]) = false := beq_eq_false_iff_ne.2 (fun e => t4 (.inl e))
          have f5 : ((tk L i).text == [102, 97, 108, 115, 101]) = false := beq_eq_false_iff_ne.2 (fun e => t4 (.inr e))
          clear t4
          cases ty : isTypeW (tk L i).text with
          | true =>
            rw [ty, if_pos (.inl rfl)] at HQ
            have hlt := type_lt ty
            have HC0 := typeW_any (tk L i).text wa
            rw [ty] at HC0
            have HC13 := hide HC0
            clear HC0
            go_wp2_with fail
            rw [← unhide HWA, ← unhide HTB]
            refine (unhide HC13).mono ?_
            rintro e wq ⟨rfl, hwq⟩
            rw [hwq]
            clear hwq HC13
            obtain ⟨⟨j14, o14⟩, hR14⟩ : ∃ r : Rp, rec 11 (i) = r := ⟨_, rfl⟩
            have ha14 := unhide HVV 11 (i) (by omega)
            have HC14 := hide (unhide HH 11 (i) wa (by decide) (show 20 * (L.length - (i)) + 1 ≤ f by omega) (by omega) (unhide HSa).pe)
            rw [hR14] at ha14 HC14 HQ
            clear hR14
            cases o14 with
            | none =>
              have HQn : Hid (R = (j14, none)) := (unhide HQ).symm
              go_wp2_with fail
              refine (unhide HC14).mono ?_
              rintro e w14 ⟨hs, rfl⟩
              have HSn := hide ((unhide HSa).trans hs)
              clear hs
              go_wp2
              exact ⟨rfl, RQ.pan (unhide HSn) (unhide HQn)⟩
            | some x14 =>
              have hj14 : i < j14 ∧ j14 ≤ L.length := ⟨ha14.2 rfl, ha14.1.2⟩
              clear ha14
              go_wp2_with fail
              refine (unhide HC14).mono ?_
              rintro e w14 ⟨hs, b14, rfl, hp⟩
              have HS14 := hide ((unhide HSa).trans hs)
              have hz14 : w.heap.size ≤ w14.heap.size := (unhide HS14).out.size
              have hy14 : wa.heap.size ≤ w14.heap.size := hs.out.size
              clear hs HC14
              have P14 := hide hp
              clear hp
              go_wp2
              go_ret
              exact RQ.ok (unhide HS14) ((unhide P14).wide (by omega) (unhide P14).top (Nat.le_refl _)) ((unhide HQ).symm)
          | false =>
            rw [ty] at HQ
            have HC0 := typeW_any (tk L i).text wa
            rw [ty] at HC0
            have HC15 := hide HC0
            clear HC0
            go_wp2_with fail
            rw [← unhide HWA, ← unhide HTB]
            refine (unhide HC15).mono ?_
            rintro e wq ⟨rfl, hwq⟩
            rw [hwq]
            clear hwq HC15
            by_cases t5 : (tk L (i + 1)).text = [40]
            · rw [if_pos (.inr t5)] at HQ
              have hlt := text_lt t5 (by decide)
              have HC0 := ahead1 (unhide HSa).pe (by omega) (by omega)
              rw [t5] at HC0
              have HC16 := hide HC0
              clear HC0
              go_wp2_with fail
              refine (unhide HC16).mono ?_
              rintro e w16 ⟨rfl, hx⟩
              have HS16 := hide ((unhide HSa).ext hx)
              have hz16 : w.heap.size ≤ w16.heap.size := (unhide HS16).out.size
              have hy16 : wa.heap.size ≤ w16.heap.size := hx.size
              clear hx HC16
              obtain ⟨⟨j17, o17⟩, hR17⟩ : ∃ r : Rp, rec 11 (i) = r := ⟨_, rfl⟩
              have ha17 := unhide HVV 11 (i) (by omega)
              have HC17 := hide (unhide HH 11 (i) w16 (by decide) (show 20 * (L.length - (i)) + 1 ≤ f by omega) (by omega) (unhide HS16).pe)
              rw [hR17] at ha17 HC17 HQ
              clear hR17
              cases o17 with
              | none =>
                have HQn : Hid (R = (j17, none)) := (unhide HQ).symm
                go_wp2_with fail
                refine (unhide HC17).mono ?_
                rintro e w17 ⟨hs, rfl⟩
                have HSn := hide ((unhide HS16).trans hs)
                clear hs
                go_wp2
                exact ⟨rfl, RQ.pan (unhide HSn) (unhide HQn)⟩
              | some x17 =>
                have hj17 : i < j17 ∧ j17 ≤ L.length := ⟨ha17.2 rfl, ha17.1.2⟩
                clear ha17
                go_wp2_with fail
                refine (unhide HC17).mono ?_
                rintro e w17 ⟨hs, b17, rfl, hp⟩
                have HS17 := hide ((unhide HS16).trans hs)
                have hz17 : w.heap.size ≤ w17.heap.size := (unhide HS17).out.size
                have hy17 : w16.heap.size ≤ w17.heap.size := hs.out.size
                clear hs HC17
                have P17 := hide hp
                clear hp
                go_wp2
                go_ret
                exact RQ.ok (unhide HS17) ((unhide P17).wide (by omega) (unhide P17).top (Nat.le_refl _)) ((unhide HQ).symm)
            · rw [if_neg (by rintro (e | e); cases e; exact t5 e)] at HQ
              have f6 : ((tk L (i + 1)).text == [40]) = false := beq_eq_false_iff_ne.2 t5
              have HC18 := hide (ahead1 (unhide HSa).pe (by omega) (by omega))
              go_wp2_with fail
              refine (unhide HC18).mono ?_
              rintro e w18 ⟨rfl, hx⟩
              have HS18 := hide ((unhide HSa).ext hx)
              have hz18 : w.heap.size ≤ w18.heap.size := (unhide HS18).out.size
              have hy18 : wa.heap.size ≤ w18.heap.size := hx.size
              clear hx HC18
              have HC19 := hide (begin_any 19 none 0 0 (unhide HS18).pe (by omega) (by omega))
              go_wp2_with fail
              refine (unhide HC19).mono ?_
              rintro e w19 ⟨xb, rfl, hxb, hB, hx⟩
              have hxw : w.heap.size ≤ xb := by omega
              have HS19 := hide ((unhide HS18).ext hx)
              have hz19 : w.heap.size ≤ w19.heap.size := (unhide HS19).out.size
              have hy19 : w18.heap.size ≤ w19.heap.size := hx.size
              clear hx HC19
              have N19 : Hid (ND w19 w.heap.size w.heap.size xb 19 [] [] 0 (tk L (i)).place (.slice none 0 0) []) := ND.new hB hxw
              clear hB
              obtain ⟨⟨j20, o20⟩, hR20⟩ : ∃ r : Nat × Option Tok, takeP L (isNm L (i)) (i) = r := ⟨_, rfl⟩
              have ha20 := adv_take (L := L) (i := i) (may := isNm L (i)) (by omega) name_lt
              have HC20 := hide (name_any (unhide HS19).pe (by omega) (by omega))
              rw [hR20] at ha20 HC20 HQ
              clear hR20
              cases o20 with
              | none =>
                have HQn : Hid (R = (j20, none)) := (unhide HQ).symm
                go_wp2_with fail
                refine (unhide HC20).mono ?_
                rintro e w20 ⟨hs, rfl⟩
                have HSn := hide ((unhide HS19).trans hs)
                clear hs
                go_wp2
                exact ⟨rfl, RQ.pan (unhide HSn) (unhide HQn)⟩
              | some t20 =>
                have hj20 : i < j20 ∧ j20 ≤ L.length := ⟨ha20.2 rfl, ha20.1.2⟩
                rw [bnd_some (r := (j20, some t20)) rfl] at HQ
                clear ha20
                go_wp2_with fail
                refine (unhide HC20).mono ?_
                rintro e w20 ⟨hs, rfl⟩
                have HS20 := hide ((unhide HS19).trans hs)
                have hz20 : w.heap.size ≤ w20.heap.size := (unhide HS20).out.size
                have hy20 : w19.heap.size ≤ w20.heap.size := hs.out.size
                have N20 := hide ((unhide N19).out hs.out (by omega))
                clear N19
                clear hs HC20
                have q21 := (unhide N20).blk.cell (i := 2) rfl
                have fq21 := fun j => (unhide N20).blk.free j
                obtain ⟨w21, hw21⟩ : ∃ w21, w21 = w20.setCell ⟨xb, 2, none⟩ (.string ⟨t20.text.toArray⟩) := ⟨_, rfl⟩
                have N21 := hide ((unhide N20).setText t20.text)
                have HS21 := hide (St.set (c := 2) (v := .string ⟨t20.text.toArray⟩) (unhide HP) (unhide HS20) hxw)
                rw [← hw21] at N21 HS21
                have hz21 : w.heap.size ≤ w21.heap.size := (unhide HS21).out.size
                clear N20
                go_wp2
                rw [← hw21]
                clear hw21 q21 fq21
                go_ret
                exact RQ.ok (unhide HS21) (unhide N21).part ((unhide HQ).symm)

end
end Go.Proofs.YtjfhhhabcbkahaaGreat
