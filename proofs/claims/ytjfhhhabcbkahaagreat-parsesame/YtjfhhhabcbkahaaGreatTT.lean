/-
  Rules: branches, returns.
-/
import Derived.Test.YtjfhhhabcbkahaaGreatTS
namespace Go.Proofs.YtjfhhhabcbkahaaGreat
open Go.RowKit
set_option linter.unusedVariables false
set_option linter.unusedSimpArgs false
section
variable {w : World} {pb : Nat} {L : List Tok} {tv lv : Value} {i : Nat}

set_option maxHeartbeats 1000000 in
set_option maxRecDepth 100000 in
theorem branch_step {rec : Nat → Nat → Rp} {f : Nat} (H : Ctr pb L tv lv rec f) (HV : AdvA L rec) (hm : 20 * (L.length - i) + 15 ≤ f + 1) (h : PE w pb L tv lv i) (hi : i ≤ L.length) (hL : L.length ≤ 100000000) :
    Calls Tryz.prog 103 #[.pointer (some ⟨pb, 0, none⟩)] w (RQ w pb L tv lv w.heap.size (branchP L rec i)) := by
  have HH := hide H
  have HVV := hide HV
  clear H HV
  have HP := hide h
  have hpb := h.lt
  obtain ⟨R, hR⟩ : ∃ R, branchP L rec i = R := ⟨_, rfl⟩
  rw [hR]
  unfold branchP at hR
  have HQ := hide hR
  have HS0 := hide (St.of h (Ext.refl w))
  have hmf : ∀ (fn : Fn) (first cap : Array Value) (w : World), (Instr.makeFunc fn first cap).run Tryz.prog w = .ok (.func fn first cap) w := fun _ _ _ _ => rfl
  have g0 := fld0
  have g1 := fld1
  have g2 := fld2
  clear hR h
  go_enter Tryz.func103, Tryz.ntmps103
  have HC1 := hide (begin_any 7 none 0 0 (unhide HS0).pe (by omega) (by omega))
  go_wp2_with fail
  refine (unhide HC1).mono ?_
  rintro e w1 ⟨xb, rfl, hxb, hB, hx⟩
  have hxw : w.heap.size ≤ xb := by omega
  have HS1 := hide ((unhide HS0).ext hx)
  have hz1 : w.heap.size ≤ w1.heap.size := (unhide HS1).out.size
  clear hx HC1
  have N1 : Hid (ND w1 w.heap.size w.heap.size xb 7 [] [] 0 (tk L (i)).place (.slice none 0 0) []) := ND.new hB hxw
  clear hB
  obtain ⟨⟨j2, o2⟩, hR2⟩ : ∃ r : Nat × Option Unit, needP L [[105, 102], [40]] (i) = r := ⟨_, rfl⟩
  have ha2 := adv_need (L := L) [105, 102] [[40]] (i := i) (by omega) (by decide)
  have HC2 := hide (need_at [[105, 102], [40]] #[.string ⟨#[105, 102]⟩, .string ⟨#[40]⟩] rfl (unhide HS1).pe (by simp) (by omega) (by omega))
  rw [hR2] at ha2 HC2 HQ
  clear hR2
  cases o2 with
  | none =>
    have HQn : Hid (R = (j2, none)) := (unhide HQ).symm
    go_wp2_with fail
    refine (unhide HC2).mono ?_
    rintro e w2 ⟨hs, rfl⟩
    have HSn := hide ((unhide HS1).trans hs)
    clear hs
    go_wp2
    exact ⟨rfl, RQ.pan (unhide HSn) (unhide HQn)⟩
  | some u2 =>
    have hj2 : i < j2 ∧ j2 ≤ L.length := ⟨ha2.2 rfl, ha2.1.2⟩
    rw [bnd_some (r := (j2, some u2)) rfl] at HQ
    clear ha2
    go_wp2_with fail
    refine (unhide HC2).mono ?_
    rintro e w2 ⟨hs, rfl⟩
    have HS2 := hide ((unhide HS1).trans hs)
    have hz2 : w.heap.size ≤ w2.heap.size := (unhide HS2).out.size
    have hy2 : w1.heap.size ≤ w2.heap.size := hs.out.size
    have N2 := hide ((unhide N1).out hs.out (by omega))
    clear N1
    clear hs HC2
    obtain ⟨⟨j3, o3⟩, hR3⟩ : ∃ r : Rp, rec 0 (j2) = r := ⟨_, rfl⟩
    have ha3 := unhide HVV 0 (j2) (by omega)
    have HC0 := unhide HH 0 (j2) (w2.drew) (by decide) (show 20 * (L.length - (j2)) + 12 ≤ f by omega) (by omega) ((unhide HS2).pe.ext ((Ext.refl w2).drew))
    rw [hR3] at ha3 HC0 HQ
    clear hR3
    cases o3 with
    | none =>
      have HQn : Hid (R = (j3, none)) := (unhide HQ).symm
      have HC3 := hide HC0
      clear HC0
      go_wp2
      have q3 := (unhide N2).blk.cell (i := 6) rfl
      go_region_law ((go_simp; go_at_call 98; refine (unhide HC3).mono ?_; rintro e w3 ⟨hs, rfl⟩; refine dummyLaw ⟨#[], []⟩ w3 (by have HSn := hide ((((unhide HS2).ext ((Ext.refl w2).drew))).trans hs); clear hs; go_wp2; exact ⟨rfl, RQ.pan (unhide HSn) (unhide HQn)⟩) ?_))
      all_goals trivial
    | some x3 =>
      have hj3 : j2 < j3 ∧ j3 ≤ L.length := ⟨ha3.2 rfl, ha3.1.2⟩
      rw [bnd_some (r := (j3, some x3)) rfl] at HQ
      clear ha3
      have HC3 : Hid (Calls Tryz.prog 98 #[.pointer (some ⟨pb, 0, none⟩)] (w2.drew) (fun e w6 => ∃ b ao cap w7, e = .returned (.pointer (some ⟨b, 0, none⟩)) ∧ w6.cell? ⟨xb, 6, none⟩ = some (.slice none 0 0) ∧ (w6.alloc (.cells #[.pointer (some ⟨b, 0, none⟩)] 53)).cell? ⟨xb, 6, none⟩ = some (.slice none 0 0) ∧ (Builtin.append_ #[76, 76] 76 #[.slice none 0 0, .slice (some ⟨w6.heap.size, 0, none⟩) 1 1]).run Tryz.prog (w6.alloc (.cells #[.pointer (some ⟨b, 0, none⟩)] 53)) = .ok (.slice ao ((([]) : List (List Nd)).length + 1) cap) w7 ∧ w7.cell? ⟨xb, 6, none⟩ = some (.slice none 0 0) ∧ w7.frozen? ⟨xb, 6, none⟩ = false ∧ ND (w7.setCell ⟨xb, 6, none⟩ (.slice ao ((([]) : List (List Nd)).length + 1) cap)) w.heap.size w.heap.size xb 7 [] [] 0 (tk L (i)).place (.slice ao ((([]) : List (List Nd)).length + 1) cap) ([] ++ [x3]) ∧ St w pb L tv lv j3 (w7.setCell ⟨xb, 6, none⟩ (.slice ao ((([]) : List (List Nd)).length + 1) cap)))) := by
        have hd := ((Ext.refl w2).drew)
        have hN := (unhide N2).ext hd
        refine HC0.mono ?_
        rintro e w6 ⟨hs, b, rfl, hp⟩
        have hN6 := hN.out hs.out (by omega)
        obtain ⟨ao, cap, w7, hrun, c7, f7, hg, hN7⟩ := hN6.app hp hN.blk.lt (fun m e => hN.row.lt m e) (by simp)
        exact ⟨b, ao, cap, w7, rfl, hN6.blk.cell rfl, (hN6.ext ((Ext.refl w6).alloc _)).blk.cell rfl, hrun, c7, f7, hN7, St.set (unhide HP) (St.grown (unhide HP) ((((unhide HS2).ext hd)).trans hs) hg (fun m e => hN.own m e)) hxw⟩
      clear HC0
      go_wp2
      go_cut [13] (fun p wc => ∃ w8 ao n cap, w8 = wc ∧ ND wc w.heap.size w.heap.size xb 7 [] [] 0 (tk L (i)).place (.slice ao n cap) ([] ++ [x3]) ∧ St w pb L tv lv j3 wc)
      case first =>
        have q3 := (unhide N2).blk.cell (i := 6) rfl
        go_region_law ((first | (refine step_run (by rfl) (.tmp 13) (.tmp 16) 76 (by rfl) (by rfl) (by rfl) hrun ?_) | (go_simp; go_at_call 98; refine (unhide HC3).mono ?_; rintro e w6 ⟨b, ao, cap, w7, rfl, c6, c6a, hrun, c7, f7, hF⟩)))
        all_goals go_wp2
        all_goals go_meet
        all_goals exact ⟨_, ao, _, cap, rfl, hF.1, hF.2⟩
      case rest =>
        obtain ⟨w3, ao3, n3, cap3, rfl, hN, hS⟩ := hcut
        have N3 := hide hN
        have HS3 := hide hS
        have hz3 : w.heap.size ≤ w3.heap.size := hS.out.size
        clear hN hS HC3 N2
        obtain ⟨⟨j4, o4⟩, hR4⟩ : ∃ r : Nat × Option Unit, needP L [[41]] (j3) = r := ⟨_, rfl⟩
        have ha4 := lea_need (L := L) [[41]] (i := j3) (by omega) (by decide)
        have HC4 := hide (need_at [[41]] #[.string ⟨#[41]⟩] rfl (unhide HS3).pe (by simp) (by omega) (by omega))
        rw [hR4] at ha4 HC4 HQ
        clear hR4
        cases o4 with
        | none =>
          have HQn : Hid (R = (j4, none)) := (unhide HQ).symm
          go_wp2_with fail
          refine (unhide HC4).mono ?_
          rintro e w4 ⟨hs, rfl⟩
          have HSn := hide ((unhide HS3).trans hs)
          clear hs
          go_wp2
          exact ⟨rfl, RQ.pan (unhide HSn) (unhide HQn)⟩
        | some u4 =>
          have hj4 : j3 ≤ j4 ∧ j4 ≤ L.length := ha4
          rw [bnd_some (r := (j4, some u4)) rfl] at HQ
          clear ha4
          go_wp2_with fail
          refine (unhide HC4).mono ?_
          rintro e w4 ⟨hs, rfl⟩
          have HS4 := hide ((unhide HS3).trans hs)
          have hz4 : w.heap.size ≤ w4.heap.size := (unhide HS4).out.size
          have hy4 : w3.heap.size ≤ w4.heap.size := hs.out.size
          have N4 := hide ((unhide N3).out hs.out (by omega))
          clear N3
          clear hs HC4
          obtain ⟨⟨j5, o5⟩, hR5⟩ : ∃ r : Rp, rec 12 (j4) = r := ⟨_, rfl⟩
          have ha5 := unhide HVV 12 (j4) (by omega)
          have HC0 := unhide HH 12 (j4) (w4.drew) (by decide) (show 20 * (L.length - (j4)) + 16 ≤ f by omega) (by omega) ((unhide HS4).pe.ext ((Ext.refl w4).drew))
          rw [hR5] at ha5 HC0 HQ
          clear hR5
          cases o5 with
          | none =>
            have HQn : Hid (R = (j5, none)) := (unhide HQ).symm
            have HC5 := hide HC0
            clear HC0
            go_wp2
            have q5 := (unhide N4).blk.cell (i := 6) rfl
            go_region_law ((go_simp; go_at_call 97; refine (unhide HC5).mono ?_; rintro e w5 ⟨hs, rfl⟩; refine dummyLaw ⟨#[], []⟩ w5 (by have HSn := hide ((((unhide HS4).ext ((Ext.refl w4).drew))).trans hs); clear hs; go_wp2; exact ⟨rfl, RQ.pan (unhide HSn) (unhide HQn)⟩) ?_))
            all_goals trivial
          | some x5 =>
            have hj5 : j4 < j5 ∧ j5 ≤ L.length := ⟨ha5.2 rfl, ha5.1.2⟩
            rw [bnd_some (r := (j5, some x5)) rfl] at HQ
            clear ha5
            have HC5 : Hid (Calls Tryz.prog 97 #[.pointer (some ⟨pb, 0, none⟩)] (w4.drew) (fun e w6 => ∃ b ao cap w7, e = .returned (.pointer (some ⟨b, 0, none⟩)) ∧ w6.cell? ⟨xb, 6, none⟩ = some (.slice ao3 n3 cap3) ∧ (w6.alloc (.cells #[.pointer (some ⟨b, 0, none⟩)] 53)).cell? ⟨xb, 6, none⟩ = some (.slice ao3 n3 cap3) ∧ (Builtin.append_ #[76, 76] 76 #[.slice ao3 n3 cap3, .slice (some ⟨w6.heap.size, 0, none⟩) 1 1]).run Tryz.prog (w6.alloc (.cells #[.pointer (some ⟨b, 0, none⟩)] 53)) = .ok (.slice ao ((([] ++ [x3]) : List (List Nd)).length + 1) cap) w7 ∧ w7.cell? ⟨xb, 6, none⟩ = some (.slice ao3 n3 cap3) ∧ w7.frozen? ⟨xb, 6, none⟩ = false ∧ ND (w7.setCell ⟨xb, 6, none⟩ (.slice ao ((([] ++ [x3]) : List (List Nd)).length + 1) cap)) w.heap.size w.heap.size xb 7 [] [] 0 (tk L (i)).place (.slice ao ((([] ++ [x3]) : List (List Nd)).length + 1) cap) ([] ++ [x3] ++ [x5]) ∧ St w pb L tv lv j5 (w7.setCell ⟨xb, 6, none⟩ (.slice ao ((([] ++ [x3]) : List (List Nd)).length + 1) cap)))) := by
              have hd := ((Ext.refl w4).drew)
              have hN := (unhide N4).ext hd
              refine HC0.mono ?_
              rintro e w6 ⟨hs, b, rfl, hp⟩
              have hN6 := hN.out hs.out (by omega)
              obtain ⟨ao, cap, w7, hrun, c7, f7, hg, hN7⟩ := hN6.app hp hN.blk.lt (fun m e => hN.row.lt m e) (by simp)
              exact ⟨b, ao, cap, w7, rfl, hN6.blk.cell rfl, (hN6.ext ((Ext.refl w6).alloc _)).blk.cell rfl, hrun, c7, f7, hN7, St.set (unhide HP) (St.grown (unhide HP) ((((unhide HS4).ext hd)).trans hs) hg (fun m e => hN.own m e)) hxw⟩
            clear HC0
            go_wp2
            go_cut [27] (fun p wc => ∃ w8 ao n cap, w8 = wc ∧ ND wc w.heap.size w.heap.size xb 7 [] [] 0 (tk L (i)).place (.slice ao n cap) ([] ++ [x3] ++ [x5]) ∧ St w pb L tv lv j5 wc)
            case first =>
              have q5 := (unhide N4).blk.cell (i := 6) rfl
              go_region_law ((first | (refine step_run (by rfl) (.tmp 27) (.tmp 30) 76 (by rfl) (by rfl) (by rfl) hrun ?_) | (go_simp; go_at_call 97; refine (unhide HC5).mono ?_; rintro e w6 ⟨b, ao, cap, w7, rfl, c6, c6a, hrun, c7, f7, hF⟩)))
              all_goals go_wp2
              all_goals go_meet
              all_goals exact ⟨_, ao, _, cap, rfl, hF.1, hF.2⟩
            case rest =>
              obtain ⟨w5, ao5, n5, cap5, rfl, hN, hS⟩ := hcut
              have N5 := hide hN
              have HS5 := hide hS
              have hz5 : w.heap.size ≤ w5.heap.size := hS.out.size
              clear hN hS HC5 N4
              by_cases ht : (tk L (j5)).text = [101, 108, 115, 101]
              · rw [if_pos ht] at HQ
                have hlt := text_lt ht (by decide)
                have HC6 := hide (skip_yes [101, 108, 115, 101] (unhide HS5).pe ht (by omega) (by omega))
                clear ht
                go_wp2_with fail
                refine (unhide HC6).mono ?_
                rintro e w6 ⟨rfl, hs⟩
                have HS6 := hide ((unhide HS5).trans hs)
                have hz6 : w.heap.size ≤ w6.heap.size := (unhide HS6).out.size
                have hy6 : w5.heap.size ≤ w6.heap.size := hs.out.size
                have N6 := hide ((unhide N5).out hs.out (by omega))
                clear N5
                clear hs HC6
                obtain ⟨⟨j7, o7⟩, hR7⟩ : ∃ r : Rp, rec 12 (j5 + 1) = r := ⟨_, rfl⟩
                have ha7 := unhide HVV 12 (j5 + 1) (by omega)
                have HC0 := unhide HH 12 (j5 + 1) (w6.drew) (by decide) (show 20 * (L.length - (j5 + 1)) + 16 ≤ f by omega) (by omega) ((unhide HS6).pe.ext ((Ext.refl w6).drew))
                rw [hR7] at ha7 HC0 HQ
                clear hR7
                cases o7 with
                | none =>
                  have HQn : Hid (R = (j7, none)) := (unhide HQ).symm
                  have HC7 := hide HC0
                  clear HC0
                  go_wp2
                  have q7 := (unhide N6).blk.cell (i := 6) rfl
                  go_region_law ((go_simp; go_at_call 97; refine (unhide HC7).mono ?_; rintro e w7 ⟨hs, rfl⟩; refine dummyLaw ⟨#[], []⟩ w7 (by have HSn := hide ((((unhide HS6).ext ((Ext.refl w6).drew))).trans hs); clear hs; go_wp2; exact ⟨rfl, RQ.pan (unhide HSn) (unhide HQn)⟩) ?_))
                  all_goals trivial
                | some x7 =>
                  have hj7 : j5 + 1 < j7 ∧ j7 ≤ L.length := ⟨ha7.2 rfl, ha7.1.2⟩
                  rw [bnd_some (r := (j7, some x7)) rfl] at HQ
                  clear ha7
                  have HC7 : Hid (Calls Tryz.prog 97 #[.pointer (some ⟨pb, 0, none⟩)] (w6.drew) (fun e w6 => ∃ b ao cap w7, e = .returned (.pointer (some ⟨b, 0, none⟩)) ∧ w6.cell? ⟨xb, 6, none⟩ = some (.slice ao5 n5 cap5) ∧ (w6.alloc (.cells #[.pointer (some ⟨b, 0, none⟩)] 53)).cell? ⟨xb, 6, none⟩ = some (.slice ao5 n5 cap5) ∧ (Builtin.append_ #[76, 76] 76 #[.slice ao5 n5 cap5, .slice (some ⟨w6.heap.size, 0, none⟩) 1 1]).run Tryz.prog (w6.alloc (.cells #[.pointer (some ⟨b, 0, none⟩)] 53)) = .ok (.slice ao ((([] ++ [x3] ++ [x5]) : List (List Nd)).length + 1) cap) w7 ∧ w7.cell? ⟨xb, 6, none⟩ = some (.slice ao5 n5 cap5) ∧ w7.frozen? ⟨xb, 6, none⟩ = false ∧ ND (w7.setCell ⟨xb, 6, none⟩ (.slice ao ((([] ++ [x3] ++ [x5]) : List (List Nd)).length + 1) cap)) w.heap.size w.heap.size xb 7 [] [] 0 (tk L (i)).place (.slice ao ((([] ++ [x3] ++ [x5]) : List (List Nd)).length + 1) cap) ([] ++ [x3] ++ [x5] ++ [x7]) ∧ St w pb L tv lv j7 (w7.setCell ⟨xb, 6, none⟩ (.slice ao ((([] ++ [x3] ++ [x5]) : List (List Nd)).length + 1) cap)))) := by
                    have hd := ((Ext.refl w6).drew)
                    have hN := (unhide N6).ext hd
                    refine HC0.mono ?_
                    rintro e w6 ⟨hs, b, rfl, hp⟩
                    have hN6 := hN.out hs.out (by omega)
                    obtain ⟨ao, cap, w7, hrun, c7, f7, hg, hN7⟩ := hN6.app hp hN.blk.lt (fun m e => hN.row.lt m e) (by simp)
                    exact ⟨b, ao, cap, w7, rfl, hN6.blk.cell rfl, (hN6.ext ((Ext.refl w6).alloc _)).blk.cell rfl, hrun, c7, f7, hN7, St.set (unhide HP) (St.grown (unhide HP) ((((unhide HS6).ext hd)).trans hs) hg (fun m e => hN.own m e)) hxw⟩
                  clear HC0
                  go_wp2
                  go_cut [40] (fun p wc => ∃ w8 ao n cap, w8 = wc ∧ ND wc w.heap.size w.heap.size xb 7 [] [] 0 (tk L (i)).place (.slice ao n cap) ([] ++ [x3] ++ [x5] ++ [x7]) ∧ St w pb L tv lv j7 wc)
                  case first =>
                    have q7 := (unhide N6).blk.cell (i := 6) rfl
                    go_region_law ((first | (refine step_run (by rfl) (.tmp 40) (.tmp 43) 76 (by rfl) (by rfl) (by rfl) hrun ?_) | (go_simp; go_at_call 97; refine (unhide HC7).mono ?_; rintro e w6 ⟨b, ao, cap, w7, rfl, c6, c6a, hrun, c7, f7, hF⟩)))
                    all_goals go_wp2
                    all_goals go_meet
                    all_goals exact ⟨_, ao, _, cap, rfl, hF.1, hF.2⟩
                  case rest =>
                    obtain ⟨w7, ao7, n7, cap7, rfl, hN, hS⟩ := hcut
                    have N7 := hide hN
                    have HS7 := hide hS
                    have hz7 : w.heap.size ≤ w7.heap.size := hS.out.size
                    clear hN hS HC7 N6
                    go_wp2
                    go_ret
                    exact RQ.ok (unhide HS7) (unhide N7).part ((unhide HQ).symm)
              · rw [if_neg ht] at HQ
                have HC8 := hide (skip_no [101, 108, 115, 101] (unhide HS5).pe ht (by omega) (by omega))
                clear ht
                go_wp2_with fail
                refine (unhide HC8).mono ?_
                rintro e w8 ⟨rfl, hx⟩
                have HS8 := hide ((unhide HS5).ext hx)
                have hz8 : w.heap.size ≤ w8.heap.size := (unhide HS8).out.size
                have hy8 : w5.heap.size ≤ w8.heap.size := hx.size
                have N8 := hide ((unhide N5).ext hx)
                clear N5
                clear hx HC8
                go_wp2
                go_ret
                exact RQ.ok (unhide HS8) (unhide N8).part ((unhide HQ).symm)

set_option maxHeartbeats 1000000 in
set_option maxRecDepth 100000 in
theorem leave_step {rec : Nat → Nat → Rp} {f : Nat} (H : Ctr pb L tv lv rec f) (HV : AdvA L rec) (hm : 20 * (L.length - i) + 15 ≤ f + 1) (h : PE w pb L tv lv i) (hi : i ≤ L.length) (hL : L.length ≤ 100000000) :
    Calls Tryz.prog 105 #[.pointer (some ⟨pb, 0, none⟩)] w (RQ w pb L tv lv w.heap.size (leaveP L rec i)) := by
  have HH := hide H
  have HVV := hide HV
  clear H HV
  have HP := hide h
  have hpb := h.lt
  obtain ⟨R, hR⟩ : ∃ R, leaveP L rec i = R := ⟨_, rfl⟩
  rw [hR]
  unfold leaveP at hR
  have HQ := hide hR
  have HS0 := hide (St.of h (Ext.refl w))
  have hmf : ∀ (fn : Fn) (first cap : Array Value) (w : World), (Instr.makeFunc fn first cap).run Tryz.prog w = .ok (.func fn first cap) w := fun _ _ _ _ => rfl
  have g0 := fld0
  have g1 := fld1
  have g2 := fld2
  clear hR h
  go_enter Tryz.func105, Tryz.ntmps105
  have HC1 := hide (begin_any 9 none 0 0 (unhide HS0).pe (by omega) (by omega))
  go_wp2_with fail
  refine (unhide HC1).mono ?_
  rintro e w1 ⟨xb, rfl, hxb, hB, hx⟩
  have hxw : w.heap.size ≤ xb := by omega
  have HS1 := hide ((unhide HS0).ext hx)
  have hz1 : w.heap.size ≤ w1.heap.size := (unhide HS1).out.size
  clear hx HC1
  have N1 : Hid (ND w1 w.heap.size w.heap.size xb 9 [] [] 0 (tk L (i)).place (.slice none 0 0) []) := ND.new hB hxw
  clear hB
  obtain ⟨⟨j2, o2⟩, hR2⟩ : ∃ r : Nat × Option Unit, needP L [[114, 101, 116, 117, 114, 110]] (i) = r := ⟨_, rfl⟩
  have ha2 := adv_need (L := L) [114, 101, 116, 117, 114, 110] [] (i := i) (by omega) (by decide)
  have HC2 := hide (need_at [[114, 101, 116, 117, 114, 110]] #[.string ⟨#[114, 101, 116, 117, 114, 110]⟩] rfl (unhide HS1).pe (by simp) (by omega) (by omega))
  rw [hR2] at ha2 HC2 HQ
  clear hR2
  cases o2 with
  | none =>
    have HQn : Hid (R = (j2, none)) := (unhide HQ).symm
    go_wp2_with fail
    refine (unhide HC2).mono ?_
    rintro e w2 ⟨hs, rfl⟩
    have HSn := hide ((unhide HS1).trans hs)
    clear hs
    go_wp2
    exact ⟨rfl, RQ.pan (unhide HSn) (unhide HQn)⟩
  | some u2 =>
    have hj2 : i < j2 ∧ j2 ≤ L.length := ⟨ha2.2 rfl, ha2.1.2⟩
    rw [bnd_some (r := (j2, some u2)) rfl] at HQ
    clear ha2
    go_wp2_with fail
    refine (unhide HC2).mono ?_
    rintro e w2 ⟨hs, rfl⟩
    have HS2 := hide ((unhide HS1).trans hs)
    have hz2 : w.heap.size ≤ w2.heap.size := (unhide HS2).out.size
    have hy2 : w1.heap.size ≤ w2.heap.size := hs.out.size
    have N2 := hide ((unhide N1).out hs.out (by omega))
    clear N1
    clear hs HC2
    by_cases ht : (tk L (j2)).text = [59]
    · rw [if_pos ht] at HQ
      have hlt := text_lt ht (by decide)
      have hc : [[59]].contains (tk L (j2)).text = true := by rw [con_one, decide_eq_true ht]
      clear ht
      have HC0 := isOne_at [[59]] #[.string ⟨#[59]⟩] rfl (unhide HS2).pe (by simp) (by omega) (by omega)
      rw [hc] at HC0
      have HC3 := hide HC0
      clear HC0 hc
      go_wp2_with fail
      refine (unhide HC3).mono ?_
      rintro e w3 ⟨rfl, hx⟩
      have HS3 := hide ((unhide HS2).ext hx)
      have hz3 : w.heap.size ≤ w3.heap.size := (unhide HS3).out.size
      have hy3 : w2.heap.size ≤ w3.heap.size := hx.size
      have N3 := hide ((unhide N2).ext hx)
      clear N2
      clear hx HC3
      obtain ⟨⟨j4, o4⟩, hR4⟩ : ∃ r : Nat × Option Unit, needP L [[59]] (j2) = r := ⟨_, rfl⟩
      have ha4 := lea_need (L := L) [[59]] (i := j2) (by omega) (by decide)
      have HC4 := hide (need_at [[59]] #[.string ⟨#[59]⟩] rfl (unhide HS3).pe (by simp) (by omega) (by omega))
      rw [hR4] at ha4 HC4 HQ
      clear hR4
      cases o4 with
      | none =>
        have HQn : Hid (R = (j4, none)) := (unhide HQ).symm
        go_wp2_with fail
        refine (unhide HC4).mono ?_
        rintro e w4 ⟨hs, rfl⟩
        have HSn := hide ((unhide HS3).trans hs)
        clear hs
        go_wp2
        exact ⟨rfl, RQ.pan (unhide HSn) (unhide HQn)⟩
      | some u4 =>
        have hj4 : j2 ≤ j4 ∧ j4 ≤ L.length := ha4
        rw [bnd_some (r := (j4, some u4)) rfl] at HQ
        clear ha4
        go_wp2_with fail
        refine (unhide HC4).mono ?_
        rintro e w4 ⟨hs, rfl⟩
        have HS4 := hide ((unhide HS3).trans hs)
        have hz4 : w.heap.size ≤ w4.heap.size := (unhide HS4).out.size
        have hy4 : w3.heap.size ≤ w4.heap.size := hs.out.size
        have N4 := hide ((unhide N3).out hs.out (by omega))
        clear N3
        clear hs HC4
        go_wp2
        go_ret
        exact RQ.ok (unhide HS4) (unhide N4).part ((unhide HQ).symm)
    · rw [if_neg ht] at HQ
      have hc : [[59]].contains (tk L (j2)).text = false := by rw [con_one, decide_eq_false ht]
      clear ht
      have HC0 := isOne_at [[59]] #[.string ⟨#[59]⟩] rfl (unhide HS2).pe (by simp) (by omega) (by omega)
      rw [hc] at HC0
      have HC5 := hide HC0
      clear HC0 hc
      go_wp2_with fail
      refine (unhide HC5).mono ?_
      rintro e w5 ⟨rfl, hx⟩
      have HS5 := hide ((unhide HS2).ext hx)
      have hz5 : w.heap.size ≤ w5.heap.size := (unhide HS5).out.size
      have hy5 : w2.heap.size ≤ w5.heap.size := hx.size
      have N5 := hide ((unhide N2).ext hx)
      clear N2
      clear hx HC5
      have hxl6 : xb < w5.heap.size := (unhide N5).blk.lt
      obtain ⟨⟨j6, o6⟩, hR6⟩ : ∃ r : Rp, rec 0 (j2) = r := ⟨_, rfl⟩
      have ha6 := unhide HVV 0 (j2) (by omega)
      have HC6 := hide (unhide HH 0 (j2) w5 (by decide) (show 20 * (L.length - (j2)) + 12 ≤ f by omega) (by omega) (unhide HS5).pe)
      rw [hR6] at ha6 HC6 HQ
      clear hR6
      cases o6 with
      | none =>
        have HQn : Hid (R = (j6, none)) := (unhide HQ).symm
        go_wp2_with fail
        refine (unhide HC6).mono ?_
        rintro e w6 ⟨hs, rfl⟩
        have HSn := hide ((unhide HS5).trans hs)
        clear hs
        go_wp2
        exact ⟨rfl, RQ.pan (unhide HSn) (unhide HQn)⟩
      | some x6 =>
        have hj6 : j2 < j6 ∧ j6 ≤ L.length := ⟨ha6.2 rfl, ha6.1.2⟩
        rw [bnd_some (r := (j6, some x6)) rfl] at HQ
        clear ha6
        go_wp2_with fail
        refine (unhide HC6).mono ?_
        rintro e w6 ⟨hs, b6, rfl, hp⟩
        have HS6 := hide ((unhide HS5).trans hs)
        have hz6 : w.heap.size ≤ w6.heap.size := (unhide HS6).out.size
        have hy6 : w5.heap.size ≤ w6.heap.size := hs.out.size
        have N6 := hide ((unhide N5).out hs.out (by omega))
        clear N5
        clear hs HC6
        have P6 := hide hp
        clear hp
        have q7 := ((unhide N6).ext ((Ext.refl w6).alloc (.cells #[.pointer (some ⟨b6, 0, none⟩)] 53))).blk.cell (i := 6) rfl
        have fq7 := fun j => ((unhide N6).ext ((Ext.refl w6).alloc (.cells #[.pointer (some ⟨b6, 0, none⟩)] 53))).blk.free j
        obtain ⟨w7, hw7⟩ : ∃ w7, w7 = (w6.alloc (.cells #[.pointer (some ⟨b6, 0, none⟩)] 53)).setCell ⟨xb, 6, none⟩ (.slice (some ⟨w6.heap.size, 0, none⟩) 1 1) := ⟨_, rfl⟩
        have HZ7 : Hid (w6.heap.size + 1 = w7.heap.size) := by show w6.heap.size + 1 = w7.heap.size; rw [hw7]; simp
        have N7 := hide (((unhide N6).ext ((Ext.refl w6).alloc (.cells #[.pointer (some ⟨b6, 0, none⟩)] 53))).setKids (v' := .slice (some ⟨w6.heap.size, 0, none⟩) 1 1) (l' := [x6]) (by
          have hsz : (w6.alloc (.cells #[.pointer (some ⟨b6, 0, none⟩)] 53)).heap.size = w6.heap.size + 1 := by simp
          have hp2 := ((unhide P6).ext ((Ext.refl w6).alloc (.cells #[.pointer (some ⟨b6, 0, none⟩)] 53)))
          have hlt := (unhide N6).blk.lt
          have hone := PRs.one (lo := w5.heap.size) (hi := w6.heap.size + 1) (X := fun b => b = xb) hp2 (Blk.new _ _ _) (Nat.le_refl _) (by omega) (by omega) (by omega) (fun m e => .inl (by omega))
          exact hone.wide (by omega) (by omega) (Nat.le_refl _)) (fun m e => by
          have e2 : w6.heap.size = m := by simpa [Value.ownBlock] using e
          omega))
        have HS7 := hide (St.set (c := 6) (v := .slice (some ⟨w6.heap.size, 0, none⟩) 1 1) (unhide HP) ((unhide HS6).ext ((Ext.refl w6).alloc (.cells #[.pointer (some ⟨b6, 0, none⟩)] 53))) hxw)
        rw [← hw7] at N7 HS7
        have hz7 : w.heap.size ≤ w7.heap.size := (unhide HS7).out.size
        clear N6 P6
        obtain ⟨⟨j8, o8⟩, hR8⟩ : ∃ r : Nat × Option Unit, needP L [[59]] (j6) = r := ⟨_, rfl⟩
        have ha8 := lea_need (L := L) [[59]] (i := j6) (by omega) (by decide)
        have HC8 := hide (need_at [[59]] #[.string ⟨#[59]⟩] rfl (unhide HS7).pe (by simp) (by omega) (by omega))
        rw [hR8] at ha8 HC8 HQ
        clear hR8
        cases o8 with
        | none =>
          have HQn : Hid (R = (j8, none)) := (unhide HQ).symm
          go_wp2_with fail
          rw [← hw7]
          first | rw [unhide HZ7] | skip
          clear hw7 q7 fq7
          refine (unhide HC8).mono ?_
          rintro e w8 ⟨hs, rfl⟩
          have HSn := hide ((unhide HS7).trans hs)
          clear hs
          go_wp2
          exact ⟨rfl, RQ.pan (unhide HSn) (unhide HQn)⟩
        | some u8 =>
          have hj8 : j6 ≤ j8 ∧ j8 ≤ L.length := ha8
          rw [bnd_some (r := (j8, some u8)) rfl] at HQ
          clear ha8
          go_wp2_with fail
          rw [← hw7]
          first | rw [unhide HZ7] | skip
          clear hw7 q7 fq7
          refine (unhide HC8).mono ?_
          rintro e w8 ⟨hs, rfl⟩
          have HS8 := hide ((unhide HS7).trans hs)
          have hz8 : w.heap.size ≤ w8.heap.size := (unhide HS8).out.size
          have hy8 : w7.heap.size ≤ w8.heap.size := hs.out.size
          have N8 := hide ((unhide N7).out hs.out (by omega))
          clear N7
          clear hs HC8
          go_wp2
          go_ret
          exact RQ.ok (unhide HS8) (unhide N8).part ((unhide HQ).symm)

end
end Go.Proofs.YtjfhhhabcbkahaaGreat
