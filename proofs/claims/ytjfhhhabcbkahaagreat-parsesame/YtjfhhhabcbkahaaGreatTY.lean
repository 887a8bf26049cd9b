/-
  Rules: shaders.
-/
import Derived.Test.YtjfhhhabcbkahaaGreatTYc
namespace Go.Proofs.YtjfhhhabcbkahaaGreat
open Go.RowKit
set_option linter.unusedVariables false
set_option linter.unusedSimpArgs false
section
variable {w : World} {pb : Nat} {L : List Tok} {tv lv : Value}
set_option maxHeartbeats 2000000 in
set_option maxRecDepth 100000 in
theorem shader_any (HTO : TokOk L) (h : PE w pb L tv lv 0) (hL : L.length ≤ 100000000) : Calls Tryz.prog 43 #[.pointer (some ⟨pb, 0, none⟩)] w (RQ w pb L tv lv w.heap.size (shadP L)) := by
  have HP := hide h
  have hpb := h.lt
  have HTK := hide HTO
  have HH := hide (go_ctr (pb := pb) (tv := tv) (lv := lv) HTO hL (fuelP L))
  have HVV : Hid (AdvA L (goP L (fuelP L))) := fun r k h => adv_go HTO _ r k h
  obtain ⟨R, hR⟩ : ∃ R, shadP L = R := ⟨_, rfl⟩
  rw [hR]
  unfold shadP at hR
  have HQ := hide hR
  have g1 := fld1
  have HFU : Hid (fuelP L = 20 * L.length + 20) := rfl
  obtain ⟨ta, tc, htv, _⟩ := h.toks.1
  have HTV := hide htv
  clear hR h HTO htv
  obtain ⟨wa, hwa⟩ : ∃ wa, wa = w.alloc (.cells #[.int .i64 1, .string ⟨#[]⟩, .string ⟨#[]⟩, .int .i32 0, .slice none 0 0, .int .i64 0, .slice none 0 0] 78) := ⟨_, rfl⟩
  obtain ⟨xb, hxb⟩ : ∃ xb, xb = w.heap.size := ⟨_, rfl⟩
  have HXA : Hid (Ext w wa) := by rw [hwa]; exact (Ext.refl w).alloc _
  have hxw : w.heap.size ≤ xb := Nat.le_of_eq hxb.symm
  have N0 : Hid (ND wa w.heap.size w.heap.size xb 1 [] [] 0 0 (.slice none 0 0) []) := ND.new (by rw [hwa, hxb]; exact Blk.new _ _ _) hxw
  have HSa := hide (St.of (unhide HP) (unhide HXA))
  have HXB := hide hxb
  clear hxb
  go_enter Tryz.func43, Tryz.ntmps43
  go_wp2
  rw [← hwa, ← unhide HXB]
  clear hwa
  go_loopw [16] (fun _ wr => ∃ (n k : Nat) (ao : Option Addr) (m cap : Nat) (acc : List (List Nd)), ND wr w.heap.size w.heap.size xb 1 [] [] 0 0 (.slice ao m cap) acc ∧ St w pb L tv lv k wr ∧ bnd (shadL L (goP L (fuelP L)) n acc k) (fun j l => (j, some (mkN 1 [] [] 0 0 l))) = R ∧ L.length < n + k ∧ k ≤ L.length ∧ acc.length ≤ k) (fun _ wr => L.length - nextW wr pb)
  case atStart => exact ⟨L.length + 1, 0, none, 0, 0, [], unhide N0, unhide HSa, unhide HQ, by omega, by omega, by simp⟩
  case round =>
    obtain ⟨n, k, ao0, m0, cap0, acc, hnd, hst, hq, hn, hkl, hac⟩ := hrel
    have Nr := hide hnd
    have HSr := hide hst
    have hzr : w.heap.size ≤ wr.heap.size := hst.out.size
    have hnx := hst.pe.next
    clear N0 HSa HQ hnd hst
    have HQ := hide hq
    clear hq
    cases n with
    | zero => omega
    | succ n =>
      rw [shadL] at HQ
      have c0 := (unhide HSr).pe.blk.cell (i := 0) (v := tv) rfl
      rw [unhide HTV] at c0
      have c1 := (unhide HSr).pe.blk.cell (i := 1) (v := .int .i64 k) rfl
      by_cases hlt : k < L.length
      · rw [if_pos hlt] at HQ
        have d1 : decide ((k : Int) < (L.length : Int)) = true := decide_eq_true (by omega)
        go_wp2
        go_quiet (fail)
        obtain ⟨wq, hwq⟩ : ∃ wq, wq = wr.drewN nq := ⟨_, rfl⟩
        have hx : Ext wr wq := by rw [hwq]; exact (Ext.refl wr).drewN nq
        have HSq := hide ((unhide HSr).ext hx)
        have hzq : w.heap.size ≤ wq.heap.size := (unhide HSq).out.size
        have Nq := hide ((unhide Nr).ext hx)
        rw [← hwq]
        clear hwq hx c0 c1 d1 Nr
        have HC1 := hide (ahead0 (unhide HSq).pe (by omega) (by omega))
        go_wp2_with fail
        refine (unhide HC1).mono ?_
        rintro e w1 ⟨rfl, hx⟩
        have HS1 := hide ((unhide HSq).ext hx)
        have hz1 : w.heap.size ≤ w1.heap.size := (unhide HS1).out.size
        have hy1 : wq.heap.size ≤ w1.heap.size := hx.size
        have N1 := hide ((unhide Nq).ext hx)
        clear Nq
        clear hx HC1
        cases ty : isTypeW (tk L k).text with
        | false =>
          rw [ty, Bool.false_and, if_neg (by simp)] at HQ
          have HC0 := typeW_any (tk L k).text w1
          rw [ty] at HC0
          have HC2 := hide HC0
          clear HC0
          go_wp2_with fail
          refine (unhide HC2).mono ?_
          rintro e wz ⟨rfl, hwz⟩
          rw [hwz]
          clear hwz HC2
          have hfu := unhide HFU
          have qa := ((unhide N1).ext ((Ext.refl w1).alloc (.cells #[.string ⟨#[97, 116, 116, 114, 105, 98, 117, 116, 101]⟩, .string ⟨#[117, 110, 105, 102, 111, 114, 109]⟩, .string ⟨#[118, 97, 114, 121, 105, 110, 103]⟩, .string ⟨#[99, 111, 110, 115, 116]⟩] 9))).blk.cell (i := 6) rfl
          obtain ⟨⟨j3, o3⟩, hR3⟩ : ∃ r : Rp, declP L (goP L (fuelP L)) outerW k = r := ⟨_, rfl⟩
          have ha3 := adv_decl (L := L) (rec := goP L (fuelP L)) (i := k) (ws := outerW) (unhide HVV) (by omega) (by decide)
          have HC0 := decl_any (w := (w1.drew.alloc (.cells #[.string ⟨#[97, 116, 116, 114, 105, 98, 117, 116, 101]⟩, .string ⟨#[117, 110, 105, 102, 111, 114, 109]⟩, .string ⟨#[118, 97, 114, 121, 105, 110, 103]⟩, .string ⟨#[99, 111, 110, 115, 116]⟩] 9))) (unhide HH) (unhide HVV) (by omega) outerW (by decide) (SF.new outerW (Blk.new w1.drew _ _) (show ¬ (w1.heap.size = pb) by omega) (by decide)) ((unhide HS1).pe.ext ((Ext.refl w1).drew.alloc (.cells #[.string ⟨#[97, 116, 116, 114, 105, 98, 117, 116, 101]⟩, .string ⟨#[117, 110, 105, 102, 111, 114, 109]⟩, .string ⟨#[118, 97, 114, 121, 105, 110, 103]⟩, .string ⟨#[99, 111, 110, 115, 116]⟩] 9))) (by omega) hL
          rw [hR3] at ha3 HC0 HQ
          clear hR3
          cases o3 with
          | none =>
            have HQn : Hid (R = (j3, none)) := (unhide HQ).symm
            have HC3 := hide HC0
            clear HC0
            go_wp2
            have q3 := (unhide N1).blk.cell (i := 6) rfl
            go_region_law ((go_simp; go_at_call 62; refine (unhide HC3).mono ?_; rintro e w3 ⟨hs, rfl⟩; refine dummyLaw ⟨#[], []⟩ w3 (by have HSn := hide ((((unhide HS1).ext ((Ext.refl w1).drew.alloc (.cells #[.string ⟨#[97, 116, 116, 114, 105, 98, 117, 116, 101]⟩, .string ⟨#[117, 110, 105, 102, 111, 114, 109]⟩, .string ⟨#[118, 97, 114, 121, 105, 110, 103]⟩, .string ⟨#[99, 111, 110, 115, 116]⟩] 9)))).trans hs); clear hs; go_wp2; exact ⟨rfl, RQ.pan (unhide HSn) (unhide HQn)⟩) ?_))
            all_goals trivial
          | some x3 =>
            have hj3 : k < j3 ∧ j3 ≤ L.length := ⟨ha3.2 rfl, ha3.1.2⟩
            rw [bnd_some (r := (j3, some x3)) rfl] at HQ
            clear ha3
            have HC3 : Hid (Calls Tryz.prog 62 #[.pointer (some ⟨pb, 0, none⟩), .slice (some ⟨w1.heap.size, 0, none⟩) 4 4] (w1.drew.alloc (.cells #[.string ⟨#[97, 116, 116, 114, 105, 98, 117, 116, 101]⟩, .string ⟨#[117, 110, 105, 102, 111, 114, 109]⟩, .string ⟨#[118, 97, 114, 121, 105, 110, 103]⟩, .string ⟨#[99, 111, 110, 115, 116]⟩] 9)) (fun e w6 => ∃ b ao cap w7, e = .returned (.pointer (some ⟨b, 0, none⟩)) ∧ w6.cell? ⟨xb, 6, none⟩ = some (.slice ao0 m0 cap0) ∧ (w6.alloc (.cells #[.pointer (some ⟨b, 0, none⟩)] 53)).cell? ⟨xb, 6, none⟩ = some (.slice ao0 m0 cap0) ∧ (Builtin.append_ #[76, 76] 76 #[.slice ao0 m0 cap0, .slice (some ⟨w6.heap.size, 0, none⟩) 1 1]).run Tryz.prog (w6.alloc (.cells #[.pointer (some ⟨b, 0, none⟩)] 53)) = .ok (.slice ao (((acc) : List (List Nd)).length + 1) cap) w7 ∧ w7.cell? ⟨xb, 6, none⟩ = some (.slice ao0 m0 cap0) ∧ w7.frozen? ⟨xb, 6, none⟩ = false ∧ ND (w7.setCell ⟨xb, 6, none⟩ (.slice ao (((acc) : List (List Nd)).length + 1) cap)) w.heap.size w.heap.size xb 1 [] [] 0 0 (.slice ao (((acc) : List (List Nd)).length + 1) cap) (acc ++ [x3]) ∧ St w pb L tv lv j3 (w7.setCell ⟨xb, 6, none⟩ (.slice ao (((acc) : List (List Nd)).length + 1) cap)))) := by
              have hd := ((Ext.refl w1).drew.alloc (.cells #[.string ⟨#[97, 116, 116, 114, 105, 98, 117, 116, 101]⟩, .string ⟨#[117, 110, 105, 102, 111, 114, 109]⟩, .string ⟨#[118, 97, 114, 121, 105, 110, 103]⟩, .string ⟨#[99, 111, 110, 115, 116]⟩] 9))
              have hN := (unhide N1).ext hd
              refine HC0.mono ?_
              rintro e w6 ⟨hs, b, rfl, hp⟩
              have hN6 := hN.out hs.out (by omega)
              obtain ⟨ao, cap, w7, hrun, c7, f7, hg, hN7⟩ := hN6.app hp hN.blk.lt (fun m e => hN.row.lt m e) (by omega)
              exact ⟨b, ao, cap, w7, rfl, hN6.blk.cell rfl, (hN6.ext ((Ext.refl w6).alloc _)).blk.cell rfl, hrun, c7, f7, hN7, St.set (unhide HP) (St.grown (unhide HP) ((((unhide HS1).ext hd)).trans hs) hg (fun m e => hN.own m e)) hxw⟩
            clear HC0
            go_wp2
            have q3 := (unhide N1).blk.cell (i := 6) rfl
            go_region_law ((first | (refine step_run (by rfl) (.tmp 42) (.tmp 46) 76 (by rfl) (by rfl) (by rfl) hrun ?_) | (go_simp; go_at_call 62; refine (unhide HC3).mono ?_; rintro e w6 ⟨b, ao, cap, w7, rfl, c6, c6a, hrun, c7, f7, hF⟩)))
            all_goals go_wp2
            all_goals have hnn := hF.2.pe.next
            all_goals exact ⟨⟨n, j3, _, _, _, acc ++ [x3], hF.1, hF.2, unhide HQ, by omega, by omega, by rw [List.length_append]; simp; omega⟩, by omega⟩
        | true =>
          rw [ty, Bool.true_and] at HQ
          have HC0 := typeW_any (tk L k).text w1
          rw [ty] at HC0
          have HC4 := hide HC0
          clear HC0
          go_wp2_with fail
          refine (unhide HC4).mono ?_
          rintro e wz ⟨rfl, hwz⟩
          rw [hwz]
          clear hwz HC4
          cases t2 : ((tk L (k + 2)).text == [40]) with
          | true =>
            rw [t2, if_pos rfl] at HQ
            have HC5 := hide (ahead2 (unhide HS1).pe (by omega) (by omega))
            go_wp2_with fail
            refine (unhide HC5).mono ?_
            rintro e w5 ⟨rfl, hx⟩
            have HS5 := hide ((unhide HS1).ext hx)
            have hz5 : w.heap.size ≤ w5.heap.size := (unhide HS5).out.size
            have hy5 : w1.heap.size ≤ w5.heap.size := hx.size
            have N5 := hide ((unhide N1).ext hx)
            clear N1
            clear hx HC5
            have hfu := unhide HFU
            obtain ⟨⟨j6, o6⟩, hR6⟩ : ∃ r : Rp, funcP L (goP L (fuelP L)) k = r := ⟨_, rfl⟩
            have ha6 := adv_func (L := L) (rec := goP L (fuelP L)) (i := k) (unhide HVV) (by omega)
            have HC0 := func_any (w := (w5.drew)) (unhide HH) (unhide HVV) (by omega) ((unhide HS5).pe.ext ((Ext.refl w5).drew)) (by omega) hL
            rw [hR6] at ha6 HC0 HQ
            clear hR6
            cases o6 with
            | none =>
              have HQn : Hid (R = (j6, none)) := (unhide HQ).symm
              have HC6 := hide HC0
              clear HC0
              go_wp2
              have q6 := (unhide N5).blk.cell (i := 6) rfl
              go_region_law ((go_simp; go_at_call 61; refine (unhide HC6).mono ?_; rintro e w6 ⟨hs, rfl⟩; refine dummyLaw ⟨#[], []⟩ w6 (by have HSn := hide ((((unhide HS5).ext ((Ext.refl w5).drew))).trans hs); clear hs; go_wp2; exact ⟨rfl, RQ.pan (unhide HSn) (unhide HQn)⟩) ?_))
              all_goals trivial
            | some x6 =>
              have hj6 : k < j6 ∧ j6 ≤ L.length := ⟨ha6.2 rfl, ha6.1.2⟩
              rw [bnd_some (r := (j6, some x6)) rfl] at HQ
              clear ha6
              have HC6 : Hid (Calls Tryz.prog 61 #[.pointer (some ⟨pb, 0, none⟩)] (w5.drew) (fun e w6 => ∃ b ao cap w7, e = .returned (.pointer (some ⟨b, 0, none⟩)) ∧ w6.cell? ⟨xb, 6, none⟩ = some (.slice ao0 m0 cap0) ∧ (w6.alloc (.cells #[.pointer (some ⟨b, 0, none⟩)] 53)).cell? ⟨xb, 6, none⟩ = some (.slice ao0 m0 cap0) ∧ (Builtin.append_ #[76, 76] 76 #[.slice ao0 m0 cap0, .slice (some ⟨w6.heap.size, 0, none⟩) 1 1]).run Tryz.prog (w6.alloc (.cells #[.pointer (some ⟨b, 0, none⟩)] 53)) = .ok (.slice ao (((acc) : List (List Nd)).length + 1) cap) w7 ∧ w7.cell? ⟨xb, 6, none⟩ = some (.slice ao0 m0 cap0) ∧ w7.frozen? ⟨xb, 6, none⟩ = false ∧ ND (w7.setCell ⟨xb, 6, none⟩ (.slice ao (((acc) : List (List Nd)).length + 1) cap)) w.heap.size w.heap.size xb 1 [] [] 0 0 (.slice ao (((acc) : List (List Nd)).length + 1) cap) (acc ++ [x6]) ∧ St w pb L tv lv j6 (w7.setCell ⟨xb, 6, none⟩ (.slice ao (((acc) : List (List Nd)).length + 1) cap)))) := by
                have hd := ((Ext.refl w5).drew)
                have hN := (unhide N5).ext hd
                refine HC0.mono ?_
                rintro e w6 ⟨hs, b, rfl, hp⟩
                have hN6 := hN.out hs.out (by omega)
                obtain ⟨ao, cap, w7, hrun, c7, f7, hg, hN7⟩ := hN6.app hp hN.blk.lt (fun m e => hN.row.lt m e) (by omega)
                exact ⟨b, ao, cap, w7, rfl, hN6.blk.cell rfl, (hN6.ext ((Ext.refl w6).alloc _)).blk.cell rfl, hrun, c7, f7, hN7, St.set (unhide HP) (St.grown (unhide HP) ((((unhide HS5).ext hd)).trans hs) hg (fun m e => hN.own m e)) hxw⟩
              clear HC0
              go_wp2
              have q6 := (unhide N5).blk.cell (i := 6) rfl
              go_region_law ((first | (refine step_run (by rfl) (.tmp 31) (.tmp 34) 76 (by rfl) (by rfl) (by rfl) hrun ?_) | (go_simp; go_at_call 61; refine (unhide HC6).mono ?_; rintro e w6 ⟨b, ao, cap, w7, rfl, c6, c6a, hrun, c7, f7, hF⟩)))
              all_goals go_wp2
              all_goals have hnn := hF.2.pe.next
              all_goals exact ⟨⟨n, j6, _, _, _, acc ++ [x6], hF.1, hF.2, unhide HQ, by omega, by omega, by rw [List.length_append]; simp; omega⟩, by omega⟩
          | false =>
            rw [t2, if_neg (by simp)] at HQ
            have HC7 := hide (ahead2 (unhide HS1).pe (by omega) (by omega))
            go_wp2_with fail
            refine (unhide HC7).mono ?_
            rintro e w7 ⟨rfl, hx⟩
            have HS7 := hide ((unhide HS1).ext hx)
            have hz7 : w.heap.size ≤ w7.heap.size := (unhide HS7).out.size
            have hy7 : w1.heap.size ≤ w7.heap.size := hx.size
            have N7 := hide ((unhide N1).ext hx)
            clear N1
            clear hx HC7
            have hfu := unhide HFU
            have qa := ((unhide N7).ext ((Ext.refl w7).alloc (.cells #[.string ⟨#[97, 116, 116, 114, 105, 98, 117, 116, 101]⟩, .string ⟨#[117, 110, 105, 102, 111, 114, 109]⟩, .string ⟨#[118, 97, 114, 121, 105, 110, 103]⟩, .string ⟨#[99, 111, 110, 115, 116]⟩] 9))).blk.cell (i := 6) rfl
            obtain ⟨⟨j8, o8⟩, hR8⟩ : ∃ r : Rp, declP L (goP L (fuelP L)) outerW k = r := ⟨_, rfl⟩
            have ha8 := adv_decl (L := L) (rec := goP L (fuelP L)) (i := k) (ws := outerW) (unhide HVV) (by omega) (by decide)
            have HC0 := decl_any (w := (w7.drew.alloc (.cells #[.string ⟨#[97, 116, 116, 114, 105, 98, 117, 116, 101]⟩, .string ⟨#[117, 110, 105, 102, 111, 114, 109]⟩, .string ⟨#[118, 97, 114, 121, 105, 110, 103]⟩, .string ⟨#[99, 111, 110, 115, 116]⟩] 9))) (unhide HH) (unhide HVV) (by omega) outerW (by decide) (SF.new outerW (Blk.new w7.drew _ _) (show ¬ (w7.heap.size = pb) by omega) (by decide)) ((unhide HS7).pe.ext ((Ext.refl w7).drew.alloc (.cells #[.string ⟨#[97, 116, 116, 114, 105, 98, 117, 116, 101]⟩, .string ⟨#[117, 110, 105, 102, 111, 114, 109]⟩, .string ⟨#[118, 97, 114, 121, 105, 110, 103]⟩, .string ⟨#[99, 111, 110, 115, 116]⟩] 9))) (by omega) hL
            rw [hR8] at ha8 HC0 HQ
            clear hR8
            cases o8 with
            | none =>
              have HQn : Hid (R = (j8, none)) := (unhide HQ).symm
              have HC8 := hide HC0
              clear HC0
              go_wp2
              have q8 := (unhide N7).blk.cell (i := 6) rfl
              go_region_law ((go_simp; go_at_call 62; refine (unhide HC8).mono ?_; rintro e w8 ⟨hs, rfl⟩; refine dummyLaw ⟨#[], []⟩ w8 (by have HSn := hide ((((unhide HS7).ext ((Ext.refl w7).drew.alloc (.cells #[.string ⟨#[97, 116, 116, 114, 105, 98, 117, 116, 101]⟩, .string ⟨#[117, 110, 105, 102, 111, 114, 109]⟩, .string ⟨#[118, 97, 114, 121, 105, 110, 103]⟩, .string ⟨#[99, 111, 110, 115, 116]⟩] 9)))).trans hs); clear hs; go_wp2; exact ⟨rfl, RQ.pan (unhide HSn) (unhide HQn)⟩) ?_))
              all_goals trivial
            | some x8 =>
              have hj8 : k < j8 ∧ j8 ≤ L.length := ⟨ha8.2 rfl, ha8.1.2⟩
              rw [bnd_some (r := (j8, some x8)) rfl] at HQ
              clear ha8
              have HC8 : Hid (Calls Tryz.prog 62 #[.pointer (some ⟨pb, 0, none⟩), .slice (some ⟨w7.heap.size, 0, none⟩) 4 4] (w7.drew.alloc (.cells #[.string ⟨#[97, 116, 116, 114, 105, 98, 117, 116, 101]⟩, .string ⟨#[117, 110, 105, 102, 111, 114, 109]⟩, .string ⟨#[118, 97, 114, 121, 105, 110, 103]⟩, .string ⟨#[99, 111, 110, 115, 116]⟩] 9)) (fun e w6 => ∃ b ao cap w7, e = .returned (.pointer (some ⟨b, 0, none⟩)) ∧ w6.cell? ⟨xb, 6, none⟩ = some (.slice ao0 m0 cap0) ∧ (w6.alloc (.cells #[.pointer (some ⟨b, 0, none⟩)] 53)).cell? ⟨xb, 6, none⟩ = some (.slice ao0 m0 cap0) ∧ (Builtin.append_ #[76, 76] 76 #[.slice ao0 m0 cap0, .slice (some ⟨w6.heap.size, 0, none⟩) 1 1]).run Tryz.prog (w6.alloc (.cells #[.pointer (some ⟨b, 0, none⟩)] 53)) = .ok (.slice ao (((acc) : List (List Nd)).length + 1) cap) w7 ∧ w7.cell? ⟨xb, 6, none⟩ = some (.slice ao0 m0 cap0) ∧ w7.frozen? ⟨xb, 6, none⟩ = false ∧ ND (w7.setCell ⟨xb, 6, none⟩ (.slice ao (((acc) : List (List Nd)).length + 1) cap)) w.heap.size w.heap.size xb 1 [] [] 0 0 (.slice ao (((acc) : List (List Nd)).length + 1) cap) (acc ++ [x8]) ∧ St w pb L tv lv j8 (w7.setCell ⟨xb, 6, none⟩ (.slice ao (((acc) : List (List Nd)).length + 1) cap)))) := by
                have hd := ((Ext.refl w7).drew.alloc (.cells #[.string ⟨#[97, 116, 116, 114, 105, 98, 117, 116, 101]⟩, .string ⟨#[117, 110, 105, 102, 111, 114, 109]⟩, .string ⟨#[118, 97, 114, 121, 105, 110, 103]⟩, .string ⟨#[99, 111, 110, 115, 116]⟩] 9))
                have hN := (unhide N7).ext hd
                refine HC0.mono ?_
                rintro e w6 ⟨hs, b, rfl, hp⟩
                have hN6 := hN.out hs.out (by omega)
                obtain ⟨ao, cap, w7, hrun, c7, f7, hg, hN7⟩ := hN6.app hp hN.blk.lt (fun m e => hN.row.lt m e) (by omega)
                exact ⟨b, ao, cap, w7, rfl, hN6.blk.cell rfl, (hN6.ext ((Ext.refl w6).alloc _)).blk.cell rfl, hrun, c7, f7, hN7, St.set (unhide HP) (St.grown (unhide HP) ((((unhide HS7).ext hd)).trans hs) hg (fun m e => hN.own m e)) hxw⟩
              clear HC0
              go_wp2
              have q8 := (unhide N7).blk.cell (i := 6) rfl
              go_region_law ((first | (refine step_run (by rfl) (.tmp 42) (.tmp 46) 76 (by rfl) (by rfl) (by rfl) hrun ?_) | (go_simp; go_at_call 62; refine (unhide HC8).mono ?_; rintro e w6 ⟨b, ao, cap, w7, rfl, c6, c6a, hrun, c7, f7, hF⟩)))
              all_goals go_wp2
              all_goals have hnn := hF.2.pe.next
              all_goals exact ⟨⟨n, j8, _, _, _, acc ++ [x8], hF.1, hF.2, unhide HQ, by omega, by omega, by rw [List.length_append]; simp; omega⟩, by omega⟩
      · rw [if_neg hlt, bnd_some (r := (k, some acc)) rfl] at HQ
        have d1 : decide ((k : Int) < (L.length : Int)) = false := decide_eq_false (by omega)
        go_wp2
        go_quiet (fail)
        obtain ⟨wq, hwq⟩ : ∃ wq, wq = wr.drewN nq := ⟨_, rfl⟩
        have hx : Ext wr wq := by rw [hwq]; exact (Ext.refl wr).drewN nq
        have HSq := hide ((unhide HSr).ext hx)
        have hzq : w.heap.size ≤ wq.heap.size := (unhide HSq).out.size
        have Nq := hide ((unhide Nr).ext hx)
        rw [← hwq]
        clear hwq hx c0 c1 d1 Nr
        go_wp2
        go_ret
        exact RQ.ok (unhide HSq) (unhide Nq).part ((unhide HQ).symm)
end

end Go.Proofs.YtjfhhhabcbkahaaGreat
