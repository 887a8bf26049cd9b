/-
  Rules: statements.
-/
import Derived.Test.YtjfhhhabcbkahaaGreatTS
namespace Go.Proofs.YtjfhhhabcbkahaaGreat
open Go.RowKit
set_option linter.unusedVariables false
set_option linter.unusedSimpArgs false

section
variable {w w' : World} {pb : Nat} {L : List Tok} {tv lv : Value} {i : Nat}
theorem RQ.after {w1 : World} {R : Rp} {e : Ending} (hx : Ext w w1) (h : RQ w1 pb L tv lv w1.heap.size R e w') : RQ w pb L tv lv w.heap.size R e w' := by
  obtain ⟨h1, h2⟩ := h
  refine ⟨St.after hx h1, ?_⟩
  obtain ⟨j, o⟩ := R
  cases o with
  | none => exact h2
  | some x =>
    obtain ⟨b, e1, hp⟩ := h2
    exact ⟨b, e1, hp.wide hx.size (Nat.le_refl _) (Nat.le_refl _)⟩
theorem decl_at {rec : Nat → Nat → Rp} {f : Nat} (H : Ctr pb L tv lv rec f) (HV : AdvA L rec) (hm : 20 * (L.length - i) + 15 ≤ f + 1) (ts : List Byts8) (cs : Array Value) (hcs : cs = (ts.map (fun x => Value.string ⟨x.toArray⟩)).toArray) (hn : ts.length ≤ 100) (hwn : ∀ x ∈ ts, x ≠ []) (h : PE w pb L tv lv i) (hi : i ≤ L.length) (hL : L.length ≤ 100000000) :
    Calls Tryz.prog 62 #[.pointer (some ⟨pb, 0, none⟩), .slice (some ⟨w.heap.size, 0, none⟩) ts.length ts.length] (w.alloc (.cells cs 9)) (RQ w pb L tv lv w.heap.size (declP L rec ts i)) := by
  subst hcs
  have hlt := h.lt
  have hx := (Ext.refl w).alloc (.cells (ts.map (fun x => Value.string ⟨x.toArray⟩)).toArray 9)
  refine (decl_any H HV hm ts hwn (SF.new ts (Blk.new _ _ _) (by omega) (by unfold maxLen; omega)) (h.ext hx) hi hL).mono ?_
  intro e w1 hq
  exact RQ.after hx hq

set_option maxHeartbeats 1000000 in
set_option maxRecDepth 100000 in
theorem stmt_step {rec : Nat → Nat → Rp} {f : Nat} (H : Ctr pb L tv lv rec f) (HV : AdvA L rec) (hm : 20 * (L.length - i) + 16 ≤ f + 1) (h : PE w pb L tv lv i) (hi : i ≤ L.length) (hL : L.length ≤ 100000000) :
    Calls Tryz.prog 97 #[.pointer (some ⟨pb, 0, none⟩)] w (RQ w pb L tv lv w.heap.size (stmtP L rec i)) := by
  have HH := hide H
  have HVV := hide HV
  clear H HV
  have HP := hide h
  have hpb := h.lt
  obtain ⟨R, hR⟩ : ∃ R, stmtP L rec i = R := ⟨_, rfl⟩
  rw [hR]
  unfold stmtP at hR
  have HQ := hide hR
  have HS0 := hide (St.of h (Ext.refl w))
  have hmf : ∀ (fn : Fn) (first cap : Array Value) (w : World), (Instr.makeFunc fn first cap).run Tryz.prog w = .ok (.func fn first cap) w := fun _ _ _ _ => rfl
  have g0 := fld0
  have g1 := fld1
  have g2 := fld2
  clear hR h
  go_enter Tryz.func97, Tryz.ntmps97
  have HC1 := hide (ahead0 (unhide HS0).pe (by omega) (by omega))
  go_wp2_with fail
  refine (unhide HC1).mono ?_
  rintro e w1 ⟨rfl, hx⟩
  have HS1 := hide ((unhide HS0).ext hx)
  have hz1 : w.heap.size ≤ w1.heap.size := (unhide HS1).out.size
  clear hx HC1
  by_cases t0 : (tk L i).text = [123]
  · rw [if_pos t0] at HQ
    have hlt := text_lt t0 (by decide)
    have f0 : ((tk L i).text == [123]) = true := by rw [t0]; rfl
    clear t0
    obtain ⟨⟨j2, o2⟩, hR2⟩ : ∃ r : Rp, rec 13 (i) = r := ⟨_, rfl⟩
    have ha2 := unhide HVV 13 (i) (by omega)
    have HC2 := hide (unhide HH 13 (i) w1 (by decide) (show 20 * (L.length - (i)) + 15 ≤ f by omega) (by omega) (unhide HS1).pe)
    rw [hR2] at ha2 HC2 HQ
    clear hR2
    cases o2 with
    | none =>
      have HQn : Hid (R = (j2, none)) := (unhide HQ).symm
      go_wp2_with fail
      refine (unhide HC2).mono ?_
      rintro e w2 ⟨hs, rfl⟩
      have HSn := hide ((unhide HS1).trans hs)
      clear hs
      go_wp2
      exact ⟨rfl, RQ.pan (unhide HSn) (unhide HQn)⟩
    | some x2 =>
      have hj2 : i < j2 ∧ j2 ≤ L.length := ⟨ha2.2 rfl, ha2.1.2⟩
      clear ha2
      go_wp2_with fail
      refine (unhide HC2).mono ?_
      rintro e w2 ⟨hs, b2, rfl, hp⟩
      have HS2 := hide ((unhide HS1).trans hs)
      have hz2 : w.heap.size ≤ w2.heap.size := (unhide HS2).out.size
      have hy2 : w1.heap.size ≤ w2.heap.size := hs.out.size
      clear hs HC2
      have P2 := hide hp
      clear hp
      go_wp2
      go_ret
      exact RQ.ok (unhide HS2) ((unhide P2).wide (by omega) (unhide P2).top (Nat.le_refl _)) ((unhide HQ).symm)
  · rw [if_neg t0] at HQ
    have f0 : ((tk L i).text == [123]) = false := beq_eq_false_iff_ne.2 t0
    clear t0
    by_cases t1 : (tk L i).text = [105, 102]
    · rw [if_pos t1] at HQ
      have hlt := text_lt t1 (by decide)
      have f1 : ((tk L i).text == [105, 102]) = true := by rw [t1]; rfl
      clear t1
      obtain ⟨⟨j3, o3⟩, hR3⟩ : ∃ r : Rp, rec 14 (i) = r := ⟨_, rfl⟩
      have ha3 := unhide HVV 14 (i) (by omega)
      have HC3 := hide (unhide HH 14 (i) w1 (by decide) (show 20 * (L.length - (i)) + 15 ≤ f by omega) (by omega) (unhide HS1).pe)
      rw [hR3] at ha3 HC3 HQ
      clear hR3
      cases o3 with
      | none =>
        have HQn : Hid (R = (j3, none)) := (unhide HQ).symm
        go_wp2_with fail
        refine (unhide HC3).mono ?_
        rintro e w3 ⟨hs, rfl⟩
        have HSn := hide ((unhide HS1).trans hs)
        clear hs
        go_wp2
        exact ⟨rfl, RQ.pan (unhide HSn) (unhide HQn)⟩
      | some x3 =>
        have hj3 : i < j3 ∧ j3 ≤ L.length := ⟨ha3.2 rfl, ha3.1.2⟩
        clear ha3
        go_wp2_with fail
        refine (unhide HC3).mono ?_
        rintro e w3 ⟨hs, b3, rfl, hp⟩
        have HS3 := hide ((unhide HS1).trans hs)
        have hz3 : w.heap.size ≤ w3.heap.size := (unhide HS3).out.size
        have hy3 : w1.heap.size ≤ w3.heap.size := hs.out.size
        clear hs HC3
        have P3 := hide hp
        clear hp
        go_wp2
        go_ret
        exact RQ.ok (unhide HS3) ((unhide P3).wide (by omega) (unhide P3).top (Nat.le_refl _)) ((unhide HQ).symm)
    · rw [if_neg t1] at HQ
      have f1 : ((tk L i).text == [105, 102]) = false := beq_eq_false_iff_ne.2 t1
      clear t1
      by_cases t2 : (tk L i).text = [102, 111, 114]
      · rw [if_pos t2] at HQ
        have hlt := text_lt t2 (by decide)
        have f2 : ((tk L i).text == [102, 111, 114]) = true := by rw [t2]; rfl
        clear t2
        obtain ⟨⟨j4, o4⟩, hR4⟩ : ∃ r : Rp, rec 15 (i) = r := ⟨_, rfl⟩
        have ha4 := unhide HVV 15 (i) (by omega)
        have HC4 := hide (unhide HH 15 (i) w1 (by decide) (show 20 * (L.length - (i)) + 15 ≤ f by omega) (by omega) (unhide HS1).pe)
        rw [hR4] at ha4 HC4 HQ
        clear hR4
        cases o4 with
        | none =>
          have HQn : Hid (R = (j4, none)) := (unhide HQ).symm
          go_wp2_with fail
          refine (unhide HC4).mono ?_
          rintro e w4 ⟨hs, rfl⟩
          have HSn := hide ((unhide HS1).trans hs)
          clear hs
          go_wp2
          exact ⟨rfl, RQ.pan (unhide HSn) (unhide HQn)⟩
        | some x4 =>
          have hj4 : i < j4 ∧ j4 ≤ L.length := ⟨ha4.2 rfl, ha4.1.2⟩
          clear ha4
          go_wp2_with fail
          refine (unhide HC4).mono ?_
          rintro e w4 ⟨hs, b4, rfl, hp⟩
          have HS4 := hide ((unhide HS1).trans hs)
          have hz4 : w.heap.size ≤ w4.heap.size := (unhide HS4).out.size
          have hy4 : w1.heap.size ≤ w4.heap.size := hs.out.size
          clear hs HC4
          have P4 := hide hp
          clear hp
          go_wp2
          go_ret
          exact RQ.ok (unhide HS4) ((unhide P4).wide (by omega) (unhide P4).top (Nat.le_refl _)) ((unhide HQ).symm)
      · rw [if_neg t2] at HQ
        have f2 : ((tk L i).text == [102, 111, 114]) = false := beq_eq_false_iff_ne.2 t2
        clear t2
        by_cases t3 : (tk L i).text = [114, 101, 116, 117, 114, 110]
        · rw [if_pos t3] at HQ
          have hlt := text_lt t3 (by decide)
          have f3 : ((tk L i).text == [114, 101, 116, 117, 114, 110]) = true := by rw [t3]; rfl
          clear t3
          obtain ⟨⟨j5, o5⟩, hR5⟩ : ∃ r : Rp, rec 16 (i) = r := ⟨_, rfl⟩
          have ha5 := unhide HVV 16 (i) (by omega)
          have HC5 := hide (unhide HH 16 (i) w1 (by decide) (show 20 * (L.length - (i)) + 15 ≤ f by omega) (by omega) (unhide HS1).pe)
          rw [hR5] at ha5 HC5 HQ
          clear hR5
          cases o5 with
          | none =>
            have HQn : Hid (R = (j5, none)) := (unhide HQ).symm
            go_wp2_with fail
            refine (unhide HC5).mono ?_
            rintro e w5 ⟨hs, rfl⟩
            have HSn := hide ((unhide HS1).trans hs)
            clear hs
            go_wp2
            exact ⟨rfl, RQ.pan (unhide HSn) (unhide HQn)⟩
          | some x5 =>
            have hj5 : i < j5 ∧ j5 ≤ L.length := ⟨ha5.2 rfl, ha5.1.2⟩
            clear ha5
            go_wp2_with fail
            refine (unhide HC5).mono ?_
            rintro e w5 ⟨hs, b5, rfl, hp⟩
            have HS5 := hide ((unhide HS1).trans hs)
            have hz5 : w.heap.size ≤ w5.heap.size := (unhide HS5).out.size
            have hy5 : w1.heap.size ≤ w5.heap.size := hs.out.size
            clear hs HC5
            have P5 := hide hp
            clear hp
            go_wp2
            go_ret
            exact RQ.ok (unhide HS5) ((unhide P5).wide (by omega) (unhide P5).top (Nat.le_refl _)) ((unhide HQ).symm)
        · rw [if_neg t3] at HQ
          have f3 : ((tk L i).text == [114, 101, 116, 117, 114, 110]) = false := beq_eq_false_iff_ne.2 t3
          clear t3
          by_cases t4 : (tk L i).text = [100, 105, 115, 99, 97, 114, 100]
          · rw [if_pos t4] at HQ
            have hlt := text_lt t4 (by decide)
            have f4 : ((tk L i).text == [100, 105, 115, 99, 97, 114, 100]) = true := by rw [t4]; rfl
            clear t4
            have HC6 := hide (begin_any 10 none 0 0 (unhide HS1).pe (by omega) (by omega))
            go_wp2_with fail
            refine (unhide HC6).mono ?_
            rintro e w6 ⟨xb, rfl, hxb, hB, hx⟩
            have hxw : w.heap.size ≤ xb := by omega
            have HS6 := hide ((unhide HS1).ext hx)
            have hz6 : w.heap.size ≤ w6.heap.size := (unhide HS6).out.size
            have hy6 : w1.heap.size ≤ w6.heap.size := hx.size
            clear hx HC6
            have N6 : Hid (ND w6 w.heap.size w.heap.size xb 10 [] [] 0 (tk L (i)).place (.slice none 0 0) []) := ND.new hB hxw
            clear hB
            obtain ⟨⟨j7, o7⟩, hR7⟩ : ∃ r : Nat × Option Unit, needP L [[100, 105, 115, 99, 97, 114, 100], [59]] (i) = r := ⟨_, rfl⟩
            have ha7 := lea_need (L := L) [[100, 105, 115, 99, 97, 114, 100], [59]] (i := i) (by omega) (by decide)
            have HC7 := hide (need_at [[100, 105, 115, 99, 97, 114, 100], [59]] #[.string ⟨#[100, 105, 115, 99, 97, 114, 100]⟩, .string ⟨#[59]⟩] rfl (unhide HS6).pe (by simp) (by omega) (by omega))
            rw [hR7] at ha7 HC7 HQ
            clear hR7
            cases o7 with
            | none =>
              have HQn : Hid (R = (j7, none)) := (unhide HQ).symm
              go_wp2_with fail
              refine (unhide HC7).mono ?_
              rintro e w7 ⟨hs, rfl⟩
              have HSn := hide ((unhide HS6).trans hs)
              clear hs
              go_wp2
              exact ⟨rfl, RQ.pan (unhide HSn) (unhide HQn)⟩
            | some u7 =>
              have hj7 : i ≤ j7 ∧ j7 ≤ L.length := ha7
              rw [bnd_some (r := (j7, some u7)) rfl] at HQ
              clear ha7
              go_wp2_with fail
              refine (unhide HC7).mono ?_
              rintro e w7 ⟨hs, rfl⟩
              have HS7 := hide ((unhide HS6).trans hs)
              have hz7 : w.heap.size ≤ w7.heap.size := (unhide HS7).out.size
              have hy7 : w6.heap.size ≤ w7.heap.size := hs.out.size
              have N7 := hide ((unhide N6).out hs.out (by omega))
              clear N6
              clear hs HC7
              go_wp2
              go_ret
              exact RQ.ok (unhide HS7) (unhide N7).part ((unhide HQ).symm)
          · rw [if_neg t4] at HQ
            have f4 : ((tk L i).text == [100, 105, 115, 99, 97, 114, 100]) = false := beq_eq_false_iff_ne.2 t4
            clear t4
            by_cases t5 : (tk L i).text = [59]
            · rw [if_pos t5] at HQ
              have hlt := text_lt t5 (by decide)
              have f5 : ((tk L i).text == [59]) = true := by rw [t5]; rfl
              clear t5
              have HC8 := hide (begin_any 12 none 0 0 (unhide HS1).pe (by omega) (by omega))
              go_wp2_with fail
              refine (unhide HC8).mono ?_
              rintro e w8 ⟨xb, rfl, hxb, hB, hx⟩
              have hxw : w.heap.size ≤ xb := by omega
              have HS8 := hide ((unhide HS1).ext hx)
              have hz8 : w.heap.size ≤ w8.heap.size := (unhide HS8).out.size
              have hy8 : w1.heap.size ≤ w8.heap.size := hx.size
              clear hx HC8
              have N8 : Hid (ND w8 w.heap.size w.heap.size xb 12 [] [] 0 (tk L (i)).place (.slice none 0 0) []) := ND.new hB hxw
              clear hB
              obtain ⟨⟨j9, o9⟩, hR9⟩ : ∃ r : Nat × Option Unit, needP L [[59]] (i) = r := ⟨_, rfl⟩
              have ha9 := lea_need (L := L) [[59]] (i := i) (by omega) (by decide)
              have HC9 := hide (need_at [[59]] #[.string ⟨#[59]⟩] rfl (unhide HS8).pe (by simp) (by omega) (by omega))
              rw [hR9] at ha9 HC9 HQ
              clear hR9
              cases o9 with
              | none =>
                have HQn : Hid (R = (j9, none)) := (unhide HQ).symm
                go_wp2_with fail
                refine (unhide HC9).mono ?_
                rintro e w9 ⟨hs, rfl⟩
                have HSn := hide ((unhide HS8).trans hs)
                clear hs
                go_wp2
                exact ⟨rfl, RQ.pan (unhide HSn) (unhide HQn)⟩
              | some u9 =>
                have hj9 : i ≤ j9 ∧ j9 ≤ L.length := ha9
                rw [bnd_some (r := (j9, some u9)) rfl] at HQ
                clear ha9
                go_wp2_with fail
                refine (unhide HC9).mono ?_
                rintro e w9 ⟨hs, rfl⟩
                have HS9 := hide ((unhide HS8).trans hs)
                have hz9 : w.heap.size ≤ w9.heap.size := (unhide HS9).out.size
                have hy9 : w8.heap.size ≤ w9.heap.size := hs.out.size
                have N9 := hide ((unhide N8).out hs.out (by omega))
                clear N8
                clear hs HC9
                go_wp2
                go_ret
                exact RQ.ok (unhide HS9) (unhide N9).part ((unhide HQ).symm)
            · rw [if_neg t5] at HQ
              have f5 : ((tk L i).text == [59]) = false := beq_eq_false_iff_ne.2 t5
              clear t5
              by_cases t6 : (tk L i).text = [99, 111, 110, 115, 116]
              · rw [if_pos (.inl t6)] at HQ
                have hlt := text_lt t6 (by decide)
                have f6 : ((tk L i).text == [99, 111, 110, 115, 116]) = true := by rw [t6]; rfl
                clear t6
                obtain ⟨⟨j10, o10⟩, hR10⟩ : ∃ r : Rp, declP L rec localW i = r := ⟨_, rfl⟩
                have ha10 := adv_decl (L := L) (rec := rec) (i := i) (ws := localW) (unhide HVV) (by omega) (by decide)
                have HC10 := hide (decl_at (unhide HH) (unhide HVV) (by omega) localW #[.string ⟨#[99, 111, 110, 115, 116]⟩] rfl (by decide) (by decide) (unhide HS1).pe (by omega) hL)
                rw [hR10] at ha10 HC10 HQ
                clear hR10
                cases o10 with
                | none =>
                  have HQn : Hid (R = (j10, none)) := (unhide HQ).symm
                  go_wp2_with fail
                  refine (unhide HC10).mono ?_
                  rintro e w10 ⟨hs, rfl⟩
                  have HSn := hide ((unhide HS1).trans hs)
                  clear hs
                  go_wp2
                  exact ⟨rfl, RQ.pan (unhide HSn) (unhide HQn)⟩
                | some x10 =>
                  have hj10 : i < j10 ∧ j10 ≤ L.length := ⟨ha10.2 rfl, ha10.1.2⟩
                  clear ha10
                  go_wp2_with fail
                  refine (unhide HC10).mono ?_
                  rintro e w10 ⟨hs, b10, rfl, hp⟩
                  have HS10 := hide ((unhide HS1).trans hs)
                  have hz10 : w.heap.size ≤ w10.heap.size := (unhide HS10).out.size
                  have hy10 : w1.heap.size ≤ w10.heap.size := hs.out.size
                  clear hs HC10
                  have P10 := hide hp
                  clear hp
                  go_wp2
                  go_ret
                  exact RQ.ok (unhide HS10) ((unhide P10).wide (by omega) (unhide P10).top (Nat.le_refl _)) ((unhide HQ).symm)
              · have f6 : ((tk L i).text == [99, 111, 110, 115, 116]) = false := beq_eq_false_iff_ne.2 t6
                cases ty : isTypeW (tk L i).text with
                | false =>
                  rw [if_neg (by rintro (e | ⟨e, _⟩); exact t6 e; rw [ty] at e; cases e)] at HQ
                  clear t6
                  have HC0 := typeW_any (tk L i).text w1
                  rw [ty] at HC0
                  have HC11 := hide HC0
                  clear HC0
                  go_wp2_with fail
                  refine (unhide HC11).mono ?_
                  rintro e wq ⟨rfl, hwq⟩
                  rw [hwq]
                  clear hwq HC11
                  have HC12 := hide (begin_any 11 none 0 0 (unhide HS1).pe (by omega) (by omega))
                  go_wp2_with fail
                  refine (unhide HC12).mono ?_
                  rintro e w12 ⟨xb, rfl, hxb, hB, hx⟩
                  have hxw : w.heap.size ≤ xb := by omega
                  have HS12 := hide ((unhide HS1).ext hx)
                  have hz12 : w.heap.size ≤ w12.heap.size := (unhide HS12).out.size
                  have hy12 : w1.heap.size ≤ w12.heap.size := hx.size
                  clear hx HC12
                  have N12 : Hid (ND w12 w.heap.size w.heap.size xb 11 [] [] 0 (tk L (i)).place (.slice none 0 0) []) := ND.new hB hxw
                  clear hB
                  have hxl13 : xb < w12.heap.size := (unhide N12).blk.lt
                  obtain ⟨⟨j13, o13⟩, hR13⟩ : ∃ r : Rp, rec 0 (i) = r := ⟨_, rfl⟩
                  have ha13 := unhide HVV 0 (i) (by omega)
                  have HC13 := hide (unhide HH 0 (i) w12 (by decide) (show 20 * (L.length - (i)) + 12 ≤ f by omega) (by omega) (unhide HS12).pe)
                  rw [hR13] at ha13 HC13 HQ
                  clear hR13
                  cases o13 with
                  | none =>
                    have HQn : Hid (R = (j13, none)) := (unhide HQ).symm
                    go_wp2_with fail
                    refine (unhide HC13).mono ?_
                    rintro e w13 ⟨hs, rfl⟩
                    have HSn := hide ((unhide HS12).trans hs)
                    clear hs
                    go_wp2
                    exact ⟨rfl, RQ.pan (unhide HSn) (unhide HQn)⟩
                  | some x13 =>
                    have hj13 : i < j13 ∧ j13 ≤ L.length := ⟨ha13.2 rfl, ha13.1.2⟩
                    rw [bnd_some (r := (j13, some x13)) rfl] at HQ
                    clear ha13
                    go_wp2_with fail
                    refine (unhide HC13).mono ?_
                    rintro e w13 ⟨hs, b13, rfl, hp⟩
                    have HS13 := hide ((unhide HS12).trans hs)
                    have hz13 : w.heap.size ≤ w13.heap.size := (unhide HS13).out.size
                    have hy13 : w12.heap.size ≤ w13.heap.size := hs.out.size
                    have N13 := hide ((unhide N12).out hs.out (by omega))
                    clear N12
                    clear hs HC13
                    have P13 := hide hp
                    clear hp
                    have q14 := ((unhide N13).ext ((Ext.refl w13).alloc (.cells #[.pointer (some ⟨b13, 0, none⟩)] 53))).blk.cell (i := 6) rfl
                    have fq14 := fun j => ((unhide N13).ext ((Ext.refl w13).alloc (.cells #[.pointer (some ⟨b13, 0, none⟩)] 53))).blk.free j
                    obtain ⟨w14, hw14⟩ : ∃ w14, w14 = (w13.alloc (.cells #[.pointer (some ⟨b13, 0, none⟩)] 53)).setCell ⟨xb, 6, none⟩ (.slice (some ⟨w13.heap.size, 0, none⟩) 1 1) := ⟨_, rfl⟩
                    have HZ14 : Hid (w13.heap.size + 1 = w14.heap.size) := by show w13.heap.size + 1 = w14.heap.size; rw [hw14]; simp
                    have N14 := hide (((unhide N13).ext ((Ext.refl w13).alloc (.cells #[.pointer (some ⟨b13, 0, none⟩)] 53))).setKids (v' := .slice (some ⟨w13.heap.size, 0, none⟩) 1 1) (l' := [x13]) (by
                      have hsz : (w13.alloc (.cells #[.pointer (some ⟨b13, 0, none⟩)] 53)).heap.size = w13.heap.size + 1 := by simp
                      have hp2 := ((unhide P13).ext ((Ext.refl w13).alloc (.cells #[.pointer (some ⟨b13, 0, none⟩)] 53)))
                      have hlt := (unhide N13).blk.lt
                      have hone := PRs.one (lo := w12.heap.size) (hi := w13.heap.size + 1) (X := fun b => b = xb) hp2 (Blk.new _ _ _) (Nat.le_refl _) (by omega) (by omega) (by omega) (fun m e => .inl (by omega))
                      exact hone.wide (by omega) (by omega) (Nat.le_refl _)) (fun m e => by
                      have e2 : w13.heap.size = m := by simpa [Value.ownBlock] using e
                      omega))
                    have HS14 := hide (St.set (c := 6) (v := .slice (some ⟨w13.heap.size, 0, none⟩) 1 1) (unhide HP) ((unhide HS13).ext ((Ext.refl w13).alloc (.cells #[.pointer (some ⟨b13, 0, none⟩)] 53))) hxw)
                    rw [← hw14] at N14 HS14
                    have hz14 : w.heap.size ≤ w14.heap.size := (unhide HS14).out.size
                    clear N13 P13
                    obtain ⟨⟨j15, o15⟩, hR15⟩ : ∃ r : Nat × Option Unit, needP L [[59]] (j13) = r := ⟨_, rfl⟩
                    have ha15 := lea_need (L := L) [[59]] (i := j13) (by omega) (by decide)
                    have HC15 := hide (need_at [[59]] #[.string ⟨#[59]⟩] rfl (unhide HS14).pe (by simp) (by omega) (by omega))
                    rw [hR15] at ha15 HC15 HQ
                    clear hR15
                    cases o15 with
                    | none =>
                      have HQn : Hid (R = (j15, none)) := (unhide HQ).symm
                      go_wp2_with fail
                      rw [← hw14]
                      first | rw [unhide HZ14] | skip
                      clear hw14 q14 fq14
                      refine (unhide HC15).mono ?_
                      rintro e w15 ⟨hs, rfl⟩
                      have HSn := hide ((unhide HS14).trans hs)
                      clear hs
                      go_wp2
                      exact ⟨rfl, RQ.pan (unhide HSn) (unhide HQn)⟩
                    | some u15 =>
                      have hj15 : j13 ≤ j15 ∧ j15 ≤ L.length := ha15
                      rw [bnd_some (r := (j15, some u15)) rfl] at HQ
                      clear ha15
                      go_wp2_with fail
                      rw [← hw14]
                      first | rw [unhide HZ14] | skip
                      clear hw14 q14 fq14
                      refine (unhide HC15).mono ?_
                      rintro e w15 ⟨hs, rfl⟩
                      have HS15 := hide ((unhide HS14).trans hs)
                      have hz15 : w.heap.size ≤ w15.heap.size := (unhide HS15).out.size
                      have hy15 : w14.heap.size ≤ w15.heap.size := hs.out.size
                      have N15 := hide ((unhide N14).out hs.out (by omega))
                      clear N14
                      clear hs HC15
                      go_wp2
                      go_ret
                      exact RQ.ok (unhide HS15) (unhide N15).part ((unhide HQ).symm)
                | true =>
                  have HC0 := typeW_any (tk L i).text w1
                  rw [ty] at HC0
                  have HC16 := hide HC0
                  clear HC0
                  go_wp2_with fail
                  refine (unhide HC16).mono ?_
                  rintro e wq ⟨rfl, hwq⟩
                  rw [hwq]
                  clear hwq HC16
                  by_cases t7 : (tk L (i + 1)).text = [40]
                  · rw [if_neg (by rintro (e | ⟨_, e⟩); exact t6 e; exact e t7)] at HQ
                    have f7 : ((tk L (i + 1)).text != [40]) = false := by rw [t7]; rfl
                    have f8 : ((tk L (i + 1)).text == [40]) = true := by rw [t7]; rfl
                    clear t6
                    have HC0 := ahead1 (unhide HS1).pe (by omega) (by omega)
                    rw [t7] at HC0
                    have HC17 := hide HC0
                    clear HC0
                    go_wp2_with fail
                    refine (unhide HC17).mono ?_
                    rintro e w17 ⟨rfl, hx⟩
                    have HS17 := hide ((unhide HS1).ext hx)
                    have hz17 : w.heap.size ≤ w17.heap.size := (unhide HS17).out.size
                    have hy17 : w1.heap.size ≤ w17.heap.size := hx.size
                    clear hx HC17
                    have HC18 := hide (begin_any 11 none 0 0 (unhide HS17).pe (by omega) (by omega))
                    go_wp2_with fail
                    refine (unhide HC18).mono ?_
                    rintro e w18 ⟨xb, rfl, hxb, hB, hx⟩
                    have hxw : w.heap.size ≤ xb := by omega
                    have HS18 := hide ((unhide HS17).ext hx)
                    have hz18 : w.heap.size ≤ w18.heap.size := (unhide HS18).out.size
                    have hy18 : w17.heap.size ≤ w18.heap.size := hx.size
                    clear hx HC18
                    have N18 : Hid (ND w18 w.heap.size w.heap.size xb 11 [] [] 0 (tk L (i)).place (.slice none 0 0) []) := ND.new hB hxw
                    clear hB
                    have hxl19 : xb < w18.heap.size := (unhide N18).blk.lt
                    obtain ⟨⟨j19, o19⟩, hR19⟩ : ∃ r : Rp, rec 0 (i) = r := ⟨_, rfl⟩
                    have ha19 := unhide HVV 0 (i) (by omega)
                    have HC19 := hide (unhide HH 0 (i) w18 (by decide) (show 20 * (L.length - (i)) + 12 ≤ f by omega) (by omega) (unhide HS18).pe)
                    rw [hR19] at ha19 HC19 HQ
                    clear hR19
                    cases o19 with
                    | none =>
                      have HQn : Hid (R = (j19, none)) := (unhide HQ).symm
                      go_wp2_with fail
                      refine (unhide HC19).mono ?_
                      rintro e w19 ⟨hs, rfl⟩
                      have HSn := hide ((unhide HS18).trans hs)
                      clear hs
                      go_wp2
                      exact ⟨rfl, RQ.pan (unhide HSn) (unhide HQn)⟩
                    | some x19 =>
                      have hj19 : i < j19 ∧ j19 ≤ L.length := ⟨ha19.2 rfl, ha19.1.2⟩
                      rw [bnd_some (r := (j19, some x19)) rfl] at HQ
                      clear ha19
                      go_wp2_with fail
                      refine (unhide HC19).mono ?_
                      rintro e w19 ⟨hs, b19, rfl, hp⟩
                      have HS19 := hide ((unhide HS18).trans hs)
                      have hz19 : w.heap.size ≤ w19.heap.size := (unhide HS19).out.size
                      have hy19 : w18.heap.size ≤ w19.heap.size := hs.out.size
                      have N19 := hide ((unhide N18).out hs.out (by omega))
                      clear N18
                      clear hs HC19
                      have P19 := hide hp
                      clear hp
                      have q20 := ((unhide N19).ext ((Ext.refl w19).alloc (.cells #[.pointer (some ⟨b19, 0, none⟩)] 53))).blk.cell (i := 6) rfl
                      have fq20 := fun j => ((unhide N19).ext ((Ext.refl w19).alloc (.cells #[.pointer (some ⟨b19, 0, none⟩)] 53))).blk.free j
                      obtain ⟨w20, hw20⟩ : ∃ w20, w20 = (w19.alloc (.cells #[.pointer (some ⟨b19, 0, none⟩)] 53)).setCell ⟨xb, 6, none⟩ (.slice (some ⟨w19.heap.size, 0, none⟩) 1 1) := ⟨_, rfl⟩
                      have HZ20 : Hid (w19.heap.size + 1 = w20.heap.size) := by show w19.heap.size + 1 = w20.heap.size; rw [hw20]; simp
                      have N20 := hide (((unhide N19).ext ((Ext.refl w19).alloc (.cells #[.pointer (some ⟨b19, 0, none⟩)] 53))).setKids (v' := .slice (some ⟨w19.heap.size, 0, none⟩) 1 1) (l' := [x19]) (by
                        have hsz : (w19.alloc (.cells #[.pointer (some ⟨b19, 0, none⟩)] 53)).heap.size = w19.heap.size + 1 := by simp
                        have hp2 := ((unhide P19).ext ((Ext.refl w19).alloc (.cells #[.pointer (some ⟨b19, 0, none⟩)] 53)))
                        have hlt := (unhide N19).blk.lt
                        have hone := PRs.one (lo := w18.heap.size) (hi := w19.heap.size + 1) (X := fun b => b = xb) hp2 (Blk.new _ _ _) (Nat.le_refl _) (by omega) (by omega) (by omega) (fun m e => .inl (by omega))
                        exact hone.wide (by omega) (by omega) (Nat.le_refl _)) (fun m e => by
                        have e2 : w19.heap.size = m := by simpa [Value.ownBlock] using e
                        omega))
                      have HS20 := hide (St.set (c := 6) (v := .slice (some ⟨w19.heap.size, 0, none⟩) 1 1) (unhide HP) ((unhide HS19).ext ((Ext.refl w19).alloc (.cells #[.pointer (some ⟨b19, 0, none⟩)] 53))) hxw)
                      rw [← hw20] at N20 HS20
                      have hz20 : w.heap.size ≤ w20.heap.size := (unhide HS20).out.size
                      clear N19 P19
                      obtain ⟨⟨j21, o21⟩, hR21⟩ : ∃ r : Nat × Option Unit, needP L [[59]] (j19) = r := ⟨_, rfl⟩
                      have ha21 := lea_need (L := L) [[59]] (i := j19) (by omega) (by decide)
                      have HC21 := hide (need_at [[59]] #[.string ⟨#[59]⟩] rfl (unhide HS20).pe (by simp) (by omega) (by omega))
                      rw [hR21] at ha21 HC21 HQ
                      clear hR21
                      cases o21 with
                      | none =>
                        have HQn : Hid (R = (j21, none)) := (unhide HQ).symm
                        go_wp2_with fail
                        rw [← hw20]
                        first | rw [unhide HZ20] | skip
                        clear hw20 q20 fq20
                        refine (unhide HC21).mono ?_
                        rintro e w21 ⟨hs, rfl⟩
                        have HSn := hide ((unhide HS20).trans hs)
                        clear hs
                        go_wp2
                        exact ⟨rfl, RQ.pan (unhide HSn) (unhide HQn)⟩
                      | some u21 =>
                        have hj21 : j19 ≤ j21 ∧ j21 ≤ L.length := ha21
                        rw [bnd_some (r := (j21, some u21)) rfl] at HQ
                        clear ha21
                        go_wp2_with fail
                        rw [← hw20]
                        first | rw [unhide HZ20] | skip
                        clear hw20 q20 fq20
                        refine (unhide HC21).mono ?_
                        rintro e w21 ⟨hs, rfl⟩
                        have HS21 := hide ((unhide HS20).trans hs)
                        have hz21 : w.heap.size ≤ w21.heap.size := (unhide HS21).out.size
                        have hy21 : w20.heap.size ≤ w21.heap.size := hs.out.size
                        have N21 := hide ((unhide N20).out hs.out (by omega))
                        clear N20
                        clear hs HC21
                        go_wp2
                        go_ret
                        exact RQ.ok (unhide HS21) (unhide N21).part ((unhide HQ).symm)
                  · rw [if_pos (.inr ⟨ty, t7⟩)] at HQ
                    have f8 : ((tk L (i + 1)).text == [40]) = false := beq_eq_false_iff_ne.2 t7
                    have f7 : ((tk L (i + 1)).text != [40]) = true := by simp [bne, f8]
                    clear t6 t7
                    have HC22 := hide (ahead1 (unhide HS1).pe (by omega) (by omega))
                    go_wp2_with fail
                    refine (unhide HC22).mono ?_
                    rintro e w22 ⟨rfl, hx⟩
                    have HS22 := hide ((unhide HS1).ext hx)
                    have hz22 : w.heap.size ≤ w22.heap.size := (unhide HS22).out.size
                    have hy22 : w1.heap.size ≤ w22.heap.size := hx.size
                    clear hx HC22
                    obtain ⟨⟨j23, o23⟩, hR23⟩ : ∃ r : Rp, declP L rec localW i = r := ⟨_, rfl⟩
                    have ha23 := adv_decl (L := L) (rec := rec) (i := i) (ws := localW) (unhide HVV) (by omega) (by decide)
                    have HC23 := hide (decl_at (unhide HH) (unhide HVV) (by omega) localW #[.string ⟨#[99, 111, 110, 115, 116]⟩] rfl (by decide) (by decide) (unhide HS22).pe (by omega) hL)
                    rw [hR23] at ha23 HC23 HQ
                    clear hR23
                    cases o23 with
                    | none =>
                      have HQn : Hid (R = (j23, none)) := (unhide HQ).symm
                      go_wp2_with fail
                      refine (unhide HC23).mono ?_
                      rintro e w23 ⟨hs, rfl⟩
                      have HSn := hide ((unhide HS22).trans hs)
                      clear hs
                      go_wp2
                      exact ⟨rfl, RQ.pan (unhide HSn) (unhide HQn)⟩
                    | some x23 =>
                      have hj23 : i < j23 ∧ j23 ≤ L.length := ⟨ha23.2 rfl, ha23.1.2⟩
                      clear ha23
                      go_wp2_with fail
                      refine (unhide HC23).mono ?_
                      rintro e w23 ⟨hs, b23, rfl, hp⟩
                      have HS23 := hide ((unhide HS22).trans hs)
                      have hz23 : w.heap.size ≤ w23.heap.size := (unhide HS23).out.size
                      have hy23 : w22.heap.size ≤ w23.heap.size := hs.out.size
                      clear hs HC23
                      have P23 := hide hp
                      clear hp
                      go_wp2
                      go_ret
                      exact RQ.ok (unhide HS23) ((unhide P23).wide (by omega) (unhide P23).top (Nat.le_refl _)) ((unhide HQ).symm)

end
end Go.Proofs.YtjfhhhabcbkahaaGreat
