/-
  Rules: loops.
-/
import Derived.Test.YtjfhhhabcbkahaaGreatTS
namespace Go.Proofs.YtjfhhhabcbkahaaGreat
open Go.RowKit
set_option linter.unusedVariables false
set_option linter.unusedSimpArgs false
section
variable {w : World} {pb : Nat} {L : List Tok} {tv lv : Value} {i : Nat}

set_option maxHeartbeats 1000000 in
set_option maxRecDepth 100000 in
theorem loop_step {rec : Nat → Nat → Rp} {f : Nat} (H : Ctr pb L tv lv rec f) (HV : AdvA L rec) (hm : 20 * (L.length - i) + 15 ≤ f + 1) (HTO : TokOk L) (h : PE w pb L tv lv i) (hi : i ≤ L.length) (hL : L.length ≤ 100000000) :
    Calls Tryz.prog 104 #[.pointer (some ⟨pb, 0, none⟩)] w (RQ w pb L tv lv w.heap.size (loopP L rec i)) := by
  have HH := hide H
  have HVV := hide HV
  clear H HV
  have HP := hide h
  have hpb := h.lt
  obtain ⟨R, hR⟩ : ∃ R, loopP L rec i = R := ⟨_, rfl⟩
  rw [hR]
  unfold loopP at hR
  have HQ := hide hR
  have HS0 := hide (St.of h (Ext.refl w))
  have hmf : ∀ (fn : Fn) (first cap : Array Value) (w : World), (Instr.makeFunc fn first cap).run Tryz.prog w = .ok (.func fn first cap) w := fun _ _ _ _ => rfl
  have g0 := fld0
  have g1 := fld1
  have g2 := fld2
  clear hR h
  have HTK := hide HTO
  clear HTO
  go_enter Tryz.func104, Tryz.ntmps104
  have HC1 := hide (begin_any 8 none 0 0 (unhide HS0).pe (by omega) (by omega))
  go_wp2_with fail
  refine (unhide HC1).mono ?_
  rintro e w1 ⟨xb, rfl, hxb, hB, hx⟩
  have hxw : w.heap.size ≤ xb := by omega
  have HS1 := hide ((unhide HS0).ext hx)
  have hz1 : w.heap.size ≤ w1.heap.size := (unhide HS1).out.size
  clear hx HC1
  have N1 : Hid (ND w1 w.heap.size w.heap.size xb 8 [] [] 0 (tk L (i)).place (.slice none 0 0) []) := ND.new hB hxw
  clear hB
  obtain ⟨⟨j2, o2⟩, hR2⟩ : ∃ r : Nat × Option Unit, needP L [[102, 111, 114], [40], [105, 110, 116]] (i) = r := ⟨_, rfl⟩
  have ha2 := adv_need (L := L) [102, 111, 114] [[40], [105, 110, 116]] (i := i) (by omega) (by decide)
  have HC2 := hide (need_at [[102, 111, 114], [40], [105, 110, 116]] #[.string ⟨#[102, 111, 114]⟩, .string ⟨#[40]⟩, .string ⟨#[105, 110, 116]⟩] rfl (unhide HS1).pe (by simp) (by omega) (by omega))
  rw [hR2] at ha2 HC2 HQ
  clear hR2
  cases o2 with
  | none =>
    have HQn : Hid (R = (j2, none)) := (unhide HQ).symm
    go_wp2_with fail
    refine (unhide HC2).mono ?_
    rintro e w2 ⟨hs, rfl⟩
    have HSn := hide ((unhide HS1).trans hs)
    clear hs
    go_wp2
    exact ⟨rfl, RQ.pan (unhide HSn) (unhide HQn)⟩
  | some u2 =>
    have hj2 : i < j2 ∧ j2 ≤ L.length := ⟨ha2.2 rfl, ha2.1.2⟩
    rw [bnd_some (r := (j2, some u2)) rfl] at HQ
    clear ha2
    go_wp2_with fail
    refine (unhide HC2).mono ?_
    rintro e w2 ⟨hs, rfl⟩
    have HS2 := hide ((unhide HS1).trans hs)
    have hz2 : w.heap.size ≤ w2.heap.size := (unhide HS2).out.size
    have hy2 : w1.heap.size ≤ w2.heap.size := hs.out.size
    have N2 := hide ((unhide N1).out hs.out (by omega))
    clear N1
    clear hs HC2
    obtain ⟨⟨j3, o3⟩, hR3⟩ : ∃ r : Nat × Option Tok, takeP L (isNm L (j2)) (j2) = r := ⟨_, rfl⟩
    have htk3 := take_tok hR3
    have ha3 := adv_take (L := L) (i := j2) (may := isNm L (j2)) (by omega) name_lt
    have HC3 := hide (name_any (unhide HS2).pe (by omega) (by omega))
    rw [hR3] at ha3 HC3 HQ
    clear hR3
    cases o3 with
    | none =>
      have HQn : Hid (R = (j3, none)) := (unhide HQ).symm
      go_wp2_with fail
      refine (unhide HC3).mono ?_
      rintro e w3 ⟨hs, rfl⟩
      have HSn := hide ((unhide HS2).trans hs)
      clear hs
      go_wp2
      exact ⟨rfl, RQ.pan (unhide HSn) (unhide HQn)⟩
    | some t3 =>
      have hj3 : j2 < j3 ∧ j3 ≤ L.length := ⟨ha3.2 rfl, ha3.1.2⟩
      rw [bnd_some (r := (j3, some t3)) rfl] at HQ
      clear ha3
      go_wp2_with fail
      refine (unhide HC3).mono ?_
      rintro e w3 ⟨hs, rfl⟩
      have HS3 := hide ((unhide HS2).trans hs)
      have hz3 : w.heap.size ≤ w3.heap.size := (unhide HS3).out.size
      have hy3 : w2.heap.size ≤ w3.heap.size := hs.out.size
      have N3 := hide ((unhide N2).out hs.out (by omega))
      clear N2
      clear hs HC3
      have hnt : t3.text ≠ [] := by
        rcases htk3 with e | ⟨e, e2⟩
        · cases e
        · cases e
          exact (unhide HTK _).2 e2
      clear htk3
      have q4 := (unhide N3).blk.cell (i := 2) rfl
      have fq4 := fun j => (unhide N3).blk.free j
      obtain ⟨w4, hw4⟩ : ∃ w4, w4 = w3.setCell ⟨xb, 2, none⟩ (.string ⟨t3.text.toArray⟩) := ⟨_, rfl⟩
      have HZ4 : Hid (w3.heap.size = w4.heap.size) := by show w3.heap.size = w4.heap.size; rw [hw4]; simp
      have N4 := hide ((unhide N3).setText t3.text)
      have HS4 := hide (St.set (c := 2) (v := .string ⟨t3.text.toArray⟩) (unhide HP) (unhide HS3) hxw)
      rw [← hw4] at N4 HS4
      have hz4 : w.heap.size ≤ w4.heap.size := (unhide HS4).out.size
      clear N3
      obtain ⟨⟨j5, o5⟩, hR5⟩ : ∃ r : Nat × Option Unit, needP L [[61]] (j3) = r := ⟨_, rfl⟩
      have ha5 := lea_need (L := L) [[61]] (i := j3) (by omega) (by decide)
      have HC5 := hide (need_at [[61]] #[.string ⟨#[61]⟩] rfl (unhide HS4).pe (by simp) (by omega) (by omega))
      rw [hR5] at ha5 HC5 HQ
      clear hR5
      cases o5 with
      | none =>
        have HQn : Hid (R = (j5, none)) := (unhide HQ).symm
        go_wp2_with fail
        rw [← hw4]
        first | rw [unhide HZ4] | skip
        clear hw4 q4 fq4
        refine (unhide HC5).mono ?_
        rintro e w5 ⟨hs, rfl⟩
        have HSn := hide ((unhide HS4).trans hs)
        clear hs
        go_wp2
        exact ⟨rfl, RQ.pan (unhide HSn) (unhide HQn)⟩
      | some u5 =>
        have hj5 : j3 ≤ j5 ∧ j5 ≤ L.length := ha5
        rw [bnd_some (r := (j5, some u5)) rfl] at HQ
        clear ha5
        go_wp2_with fail
        rw [← hw4]
        first | rw [unhide HZ4] | skip
        clear hw4 q4 fq4
        refine (unhide HC5).mono ?_
        rintro e w5 ⟨hs, rfl⟩
        have HS5 := hide ((unhide HS4).trans hs)
        have hz5 : w.heap.size ≤ w5.heap.size := (unhide HS5).out.size
        have hy5 : w4.heap.size ≤ w5.heap.size := hs.out.size
        have N5 := hide ((unhide N4).out hs.out (by omega))
        clear N4
        clear hs HC5
        obtain ⟨⟨j6, o6⟩, hR6⟩ : ∃ r : Rp, boundP L (j5) = r := ⟨_, rfl⟩
        have ha6 := adv_bound (L := L) (i := j5) (by omega)
        have HC0 := bound_any (w := (w5.drew)) (unhide HTK) ((unhide HS5).pe.ext ((Ext.refl w5).drew)) (by omega) hL
        rw [hR6] at ha6 HC0 HQ
        clear hR6
        cases o6 with
        | none =>
          have HQn : Hid (R = (j6, none)) := (unhide HQ).symm
          have HC6 := hide HC0
          clear HC0
          go_wp2
          have q6 := (unhide N5).blk.cell (i := 6) rfl
          go_region_law ((go_simp; go_at_call 109; refine (unhide HC6).mono ?_; rintro e w6 ⟨hs, rfl⟩; refine dummyLaw ⟨#[], []⟩ w6 (by have HSn := hide ((((unhide HS5).ext ((Ext.refl w5).drew))).trans hs); clear hs; go_wp2; exact ⟨rfl, RQ.pan (unhide HSn) (unhide HQn)⟩) ?_))
          all_goals trivial
        | some x6 =>
          have hj6 : j5 < j6 ∧ j6 ≤ L.length := ⟨ha6.2 rfl, ha6.1.2⟩
          rw [bnd_some (r := (j6, some x6)) rfl] at HQ
          clear ha6
          have HC6 : Hid (Calls Tryz.prog 109 #[.pointer (some ⟨pb, 0, none⟩)] (w5.drew) (fun e w6 => ∃ b ao cap w7, e = .returned (.pointer (some ⟨b, 0, none⟩)) ∧ w6.cell? ⟨xb, 6, none⟩ = some (.slice none 0 0) ∧ (w6.alloc (.cells #[.pointer (some ⟨b, 0, none⟩)] 53)).cell? ⟨xb, 6, none⟩ = some (.slice none 0 0) ∧ (Builtin.append_ #[76, 76] 76 #[.slice none 0 0, .slice (some ⟨w6.heap.size, 0, none⟩) 1 1]).run Tryz.prog (w6.alloc (.cells #[.pointer (some ⟨b, 0, none⟩)] 53)) = .ok (.slice ao ((([]) : List (List Nd)).length + 1) cap) w7 ∧ w7.cell? ⟨xb, 6, none⟩ = some (.slice none 0 0) ∧ w7.frozen? ⟨xb, 6, none⟩ = false ∧ ND (w7.setCell ⟨xb, 6, none⟩ (.slice ao ((([]) : List (List Nd)).length + 1) cap)) w.heap.size w.heap.size xb 8 [] (t3.text) 0 (tk L (i)).place (.slice ao ((([]) : List (List Nd)).length + 1) cap) ([] ++ [x6]) ∧ St w pb L tv lv j6 (w7.setCell ⟨xb, 6, none⟩ (.slice ao ((([]) : List (List Nd)).length + 1) cap)))) := by
            have hd := ((Ext.refl w5).drew)
            have hN := (unhide N5).ext hd
            refine HC0.mono ?_
            rintro e w6 ⟨hs, b, rfl, hp⟩
            have hN6 := hN.out hs.out (by omega)
            obtain ⟨ao, cap, w7, hrun, c7, f7, hg, hN7⟩ := hN6.app hp hN.blk.lt (fun m e => hN.row.lt m e) (by simp)
            exact ⟨b, ao, cap, w7, rfl, hN6.blk.cell rfl, (hN6.ext ((Ext.refl w6).alloc _)).blk.cell rfl, hrun, c7, f7, hN7, St.set (unhide HP) (St.grown (unhide HP) ((((unhide HS5).ext hd)).trans hs) hg (fun m e => hN.own m e)) hxw⟩
          clear HC0
          go_wp2
          go_cut [22] (fun p wc => ∃ w8 ao n cap, w8 = wc ∧ ND wc w.heap.size w.heap.size xb 8 [] (t3.text) 0 (tk L (i)).place (.slice ao n cap) ([] ++ [x6]) ∧ St w pb L tv lv j6 wc)
          case first =>
            have q6 := (unhide N5).blk.cell (i := 6) rfl
            go_region_law ((first | (refine step_run (by rfl) (.tmp 22) (.tmp 25) 76 (by rfl) (by rfl) (by rfl) hrun ?_) | (go_simp; go_at_call 109; refine (unhide HC6).mono ?_; rintro e w6 ⟨b, ao, cap, w7, rfl, c6, c6a, hrun, c7, f7, hF⟩)))
            all_goals go_wp2
            all_goals go_meet
            all_goals exact ⟨_, ao, _, cap, rfl, hF.1, hF.2⟩
          case rest =>
            obtain ⟨w6, ao6, n6, cap6, rfl, hN, hS⟩ := hcut
            have N6 := hide hN
            have HS6 := hide hS
            have hz6 : w.heap.size ≤ w6.heap.size := hS.out.size
            clear hN hS HC6 N5
            have qx := (unhide N6).blk.cell (i := 2) (v := .string ⟨t3.text.toArray⟩) rfl
            obtain ⟨⟨j7, o7⟩, hR7⟩ : ∃ r : Nat × Option Unit, needP L [[59], t3.text, [60]] (j6) = r := ⟨_, rfl⟩
            have ha7 := lea_need (L := L) [[59], t3.text, [60]] (i := j6) (by omega) (by intro y hy; simp only [List.mem_cons, List.not_mem_nil, or_false] at hy; rcases hy with rfl | rfl | rfl; decide; exact hnt; decide)
            have HC7 := hide (need_at [[59], t3.text, [60]] #[.string ⟨#[59]⟩, .string ⟨(t3.text).toArray⟩, .string ⟨#[60]⟩] rfl (unhide HS6).pe (by simp) (by omega) (by omega))
            rw [hR7] at ha7 HC7 HQ
            clear hR7
            cases o7 with
            | none =>
              have HQn : Hid (R = (j7, none)) := (unhide HQ).symm
              go_wp2_with fail
              refine (unhide HC7).mono ?_
              rintro e w7 ⟨hs, rfl⟩
              have HSn := hide ((unhide HS6).trans hs)
              clear hs
              go_wp2
              exact ⟨rfl, RQ.pan (unhide HSn) (unhide HQn)⟩
            | some u7 =>
              have hj7 : j6 ≤ j7 ∧ j7 ≤ L.length := ha7
              rw [bnd_some (r := (j7, some u7)) rfl] at HQ
              clear ha7
              go_wp2_with fail
              refine (unhide HC7).mono ?_
              rintro e w7 ⟨hs, rfl⟩
              have HS7 := hide ((unhide HS6).trans hs)
              have hz7 : w.heap.size ≤ w7.heap.size := (unhide HS7).out.size
              have hy7 : w6.heap.size ≤ w7.heap.size := hs.out.size
              have N7 := hide ((unhide N6).out hs.out (by omega))
              clear N6
              clear hs HC7
              clear qx
              obtain ⟨⟨j8, o8⟩, hR8⟩ : ∃ r : Rp, boundP L (j7) = r := ⟨_, rfl⟩
              have ha8 := adv_bound (L := L) (i := j7) (by omega)
              have HC0 := bound_any (w := (w7.drew)) (unhide HTK) ((unhide HS7).pe.ext ((Ext.refl w7).drew)) (by omega) hL
              rw [hR8] at ha8 HC0 HQ
              clear hR8
              cases o8 with
              | none =>
                have HQn : Hid (R = (j8, none)) := (unhide HQ).symm
                have HC8 := hide HC0
                clear HC0
                go_wp2
                have q8 := (unhide N7).blk.cell (i := 6) rfl
                go_region_law ((go_simp; go_at_call 109; refine (unhide HC8).mono ?_; rintro e w8 ⟨hs, rfl⟩; refine dummyLaw ⟨#[], []⟩ w8 (by have HSn := hide ((((unhide HS7).ext ((Ext.refl w7).drew))).trans hs); clear hs; go_wp2; exact ⟨rfl, RQ.pan (unhide HSn) (unhide HQn)⟩) ?_))
                all_goals trivial
              | some x8 =>
                have hj8 : j7 < j8 ∧ j8 ≤ L.length := ⟨ha8.2 rfl, ha8.1.2⟩
                rw [bnd_some (r := (j8, some x8)) rfl] at HQ
                clear ha8
                have HC8 : Hid (Calls Tryz.prog 109 #[.pointer (some ⟨pb, 0, none⟩)] (w7.drew) (fun e w6 => ∃ b ao cap w7, e = .returned (.pointer (some ⟨b, 0, none⟩)) ∧ w6.cell? ⟨xb, 6, none⟩ = some (.slice ao6 n6 cap6) ∧ (w6.alloc (.cells #[.pointer (some ⟨b, 0, none⟩)] 53)).cell? ⟨xb, 6, none⟩ = some (.slice ao6 n6 cap6) ∧ (Builtin.append_ #[76, 76] 76 #[.slice ao6 n6 cap6, .slice (some ⟨w6.heap.size, 0, none⟩) 1 1]).run Tryz.prog (w6.alloc (.cells #[.pointer (some ⟨b, 0, none⟩)] 53)) = .ok (.slice ao ((([] ++ [x6]) : List (List Nd)).length + 1) cap) w7 ∧ w7.cell? ⟨xb, 6, none⟩ = some (.slice ao6 n6 cap6) ∧ w7.frozen? ⟨xb, 6, none⟩ = false ∧ ND (w7.setCell ⟨xb, 6, none⟩ (.slice ao ((([] ++ [x6]) : List (List Nd)).length + 1) cap)) w.heap.size w.heap.size xb 8 [] (t3.text) 0 (tk L (i)).place (.slice ao ((([] ++ [x6]) : List (List Nd)).length + 1) cap) ([] ++ [x6] ++ [x8]) ∧ St w pb L tv lv j8 (w7.setCell ⟨xb, 6, none⟩ (.slice ao ((([] ++ [x6]) : List (List Nd)).length + 1) cap)))) := by
                  have hd := ((Ext.refl w7).drew)
                  have hN := (unhide N7).ext hd
                  refine HC0.mono ?_
                  rintro e w6 ⟨hs, b, rfl, hp⟩
                  have hN6 := hN.out hs.out (by omega)
                  obtain ⟨ao, cap, w7, hrun, c7, f7, hg, hN7⟩ := hN6.app hp hN.blk.lt (fun m e => hN.row.lt m e) (by simp)
                  exact ⟨b, ao, cap, w7, rfl, hN6.blk.cell rfl, (hN6.ext ((Ext.refl w6).alloc _)).blk.cell rfl, hrun, c7, f7, hN7, St.set (unhide HP) (St.grown (unhide HP) ((((unhide HS7).ext hd)).trans hs) hg (fun m e => hN.own m e)) hxw⟩
                clear HC0
                go_wp2
                go_cut [41] (fun p wc => ∃ w8 ao n cap, w8 = wc ∧ ND wc w.heap.size w.heap.size xb 8 [] (t3.text) 0 (tk L (i)).place (.slice ao n cap) ([] ++ [x6] ++ [x8]) ∧ St w pb L tv lv j8 wc)
                case first =>
                  have q8 := (unhide N7).blk.cell (i := 6) rfl
                  go_region_law ((first | (refine step_run (by rfl) (.tmp 41) (.tmp 44) 76 (by rfl) (by rfl) (by rfl) hrun ?_) | (go_simp; go_at_call 109; refine (unhide HC8).mono ?_; rintro e w6 ⟨b, ao, cap, w7, rfl, c6, c6a, hrun, c7, f7, hF⟩)))
                  all_goals go_wp2
                  all_goals go_meet
                  all_goals exact ⟨_, ao, _, cap, rfl, hF.1, hF.2⟩
                case rest =>
                  obtain ⟨w8, ao8, n8, cap8, rfl, hN, hS⟩ := hcut
                  have N8 := hide hN
                  have HS8 := hide hS
                  have hz8 : w.heap.size ≤ w8.heap.size := hS.out.size
                  clear hN hS HC8 N7
                  have qx := (unhide N8).blk.cell (i := 2) (v := .string ⟨t3.text.toArray⟩) rfl
                  obtain ⟨⟨j9, o9⟩, hR9⟩ : ∃ r : Nat × Option Unit, needP L [[59], t3.text, [43, 43], [41]] (j8) = r := ⟨_, rfl⟩
                  have ha9 := lea_need (L := L) [[59], t3.text, [43, 43], [41]] (i := j8) (by omega) (by intro y hy; simp only [List.mem_cons, List.not_mem_nil, or_false] at hy; rcases hy with rfl | rfl | rfl | rfl; decide; exact hnt; decide; decide)
                  have HC9 := hide (need_at [[59], t3.text, [43, 43], [41]] #[.string ⟨#[59]⟩, .string ⟨(t3.text).toArray⟩, .string ⟨#[43, 43]⟩, .string ⟨#[41]⟩] rfl (unhide HS8).pe (by simp) (by omega) (by omega))
                  rw [hR9] at ha9 HC9 HQ
                  clear hR9
                  cases o9 with
                  | none =>
                    have HQn : Hid (R = (j9, none)) := (unhide HQ).symm
                    go_wp2_with fail
                    refine (unhide HC9).mono ?_
                    rintro e w9 ⟨hs, rfl⟩
                    have HSn := hide ((unhide HS8).trans hs)
                    clear hs
                    go_wp2
                    exact ⟨rfl, RQ.pan (unhide HSn) (unhide HQn)⟩
                  | some u9 =>
                    have hj9 : j8 ≤ j9 ∧ j9 ≤ L.length := ha9
                    rw [bnd_some (r := (j9, some u9)) rfl] at HQ
                    clear ha9
                    go_wp2_with fail
                    refine (unhide HC9).mono ?_
                    rintro e w9 ⟨hs, rfl⟩
                    have HS9 := hide ((unhide HS8).trans hs)
                    have hz9 : w.heap.size ≤ w9.heap.size := (unhide HS9).out.size
                    have hy9 : w8.heap.size ≤ w9.heap.size := hs.out.size
                    have N9 := hide ((unhide N8).out hs.out (by omega))
                    clear N8
                    clear hs HC9
                    clear qx
                    obtain ⟨⟨j10, o10⟩, hR10⟩ : ∃ r : Rp, rec 12 (j9) = r := ⟨_, rfl⟩
                    have ha10 := unhide HVV 12 (j9) (by omega)
                    have HC0 := unhide HH 12 (j9) (w9.drew) (by decide) (show 20 * (L.length - (j9)) + 16 ≤ f by omega) (by omega) ((unhide HS9).pe.ext ((Ext.refl w9).drew))
                    rw [hR10] at ha10 HC0 HQ
                    clear hR10
                    cases o10 with
                    | none =>
                      have HQn : Hid (R = (j10, none)) := (unhide HQ).symm
                      have HC10 := hide HC0
                      clear HC0
                      go_wp2
                      have q10 := (unhide N9).blk.cell (i := 6) rfl
                      go_region_law ((go_simp; go_at_call 97; refine (unhide HC10).mono ?_; rintro e w10 ⟨hs, rfl⟩; refine dummyLaw ⟨#[], []⟩ w10 (by have HSn := hide ((((unhide HS9).ext ((Ext.refl w9).drew))).trans hs); clear hs; go_wp2; exact ⟨rfl, RQ.pan (unhide HSn) (unhide HQn)⟩) ?_))
                      all_goals trivial
                    | some x10 =>
                      have hj10 : j9 < j10 ∧ j10 ≤ L.length := ⟨ha10.2 rfl, ha10.1.2⟩
                      rw [bnd_some (r := (j10, some x10)) rfl] at HQ
                      clear ha10
                      have HC10 : Hid (Calls Tryz.prog 97 #[.pointer (some ⟨pb, 0, none⟩)] (w9.drew) (fun e w6 => ∃ b ao cap w7, e = .returned (.pointer (some ⟨b, 0, none⟩)) ∧ w6.cell? ⟨xb, 6, none⟩ = some (.slice ao8 n8 cap8) ∧ (w6.alloc (.cells #[.pointer (some ⟨b, 0, none⟩)] 53)).cell? ⟨xb, 6, none⟩ = some (.slice ao8 n8 cap8) ∧ (Builtin.append_ #[76, 76] 76 #[.slice ao8 n8 cap8, .slice (some ⟨w6.heap.size, 0, none⟩) 1 1]).run Tryz.prog (w6.alloc (.cells #[.pointer (some ⟨b, 0, none⟩)] 53)) = .ok (.slice ao ((([] ++ [x6] ++ [x8]) : List (List Nd)).length + 1) cap) w7 ∧ w7.cell? ⟨xb, 6, none⟩ = some (.slice ao8 n8 cap8) ∧ w7.frozen? ⟨xb, 6, none⟩ = false ∧ ND (w7.setCell ⟨xb, 6, none⟩ (.slice ao ((([] ++ [x6] ++ [x8]) : List (List Nd)).length + 1) cap)) w.heap.size w.heap.size xb 8 [] (t3.text) 0 (tk L (i)).place (.slice ao ((([] ++ [x6] ++ [x8]) : List (List Nd)).length + 1) cap) ([] ++ [x6] ++ [x8] ++ [x10]) ∧ St w pb L tv lv j10 (w7.setCell ⟨xb, 6, none⟩ (.slice ao ((([] ++ [x6] ++ [x8]) : List (List Nd)).length + 1) cap)))) := by
                        have hd := ((Ext.refl w9).drew)
                        have hN := (unhide N9).ext hd
                        refine HC0.mono ?_
                        rintro e w6 ⟨hs, b, rfl, hp⟩
                        have hN6 := hN.out hs.out (by omega)
                        obtain ⟨ao, cap, w7, hrun, c7, f7, hg, hN7⟩ := hN6.app hp hN.blk.lt (fun m e => hN.row.lt m e) (by simp)
                        exact ⟨b, ao, cap, w7, rfl, hN6.blk.cell rfl, (hN6.ext ((Ext.refl w6).alloc _)).blk.cell rfl, hrun, c7, f7, hN7, St.set (unhide HP) (St.grown (unhide HP) ((((unhide HS9).ext hd)).trans hs) hg (fun m e => hN.own m e)) hxw⟩
                      clear HC0
                      go_wp2
                      go_cut [60] (fun p wc => ∃ w8 ao n cap, w8 = wc ∧ ND wc w.heap.size w.heap.size xb 8 [] (t3.text) 0 (tk L (i)).place (.slice ao n cap) ([] ++ [x6] ++ [x8] ++ [x10]) ∧ St w pb L tv lv j10 wc)
                      case first =>
                        have q10 := (unhide N9).blk.cell (i := 6) rfl
                        go_region_law ((first | (refine step_run (by rfl) (.tmp 60) (.tmp 63) 76 (by rfl) (by rfl) (by rfl) hrun ?_) | (go_simp; go_at_call 97; refine (unhide HC10).mono ?_; rintro e w6 ⟨b, ao, cap, w7, rfl, c6, c6a, hrun, c7, f7, hF⟩)))
                        all_goals go_wp2
                        all_goals go_meet
                        all_goals exact ⟨_, ao, _, cap, rfl, hF.1, hF.2⟩
                      case rest =>
                        obtain ⟨w10, ao10, n10, cap10, rfl, hN, hS⟩ := hcut
                        have N10 := hide hN
                        have HS10 := hide hS
                        have hz10 : w.heap.size ≤ w10.heap.size := hS.out.size
                        clear hN hS HC10 N9
                        go_wp2
                        go_ret
                        exact RQ.ok (unhide HS10) (unhide N10).part ((unhide HQ).symm)

end
end Go.Proofs.YtjfhhhabcbkahaaGreat
