/-
  Rules: blocks.
-/
import Derived.Test.YtjfhhhabcbkahaaGreatTS
namespace Go.Proofs.YtjfhhhabcbkahaaGreat
open Go.RowKit
set_option linter.unusedVariables false
set_option linter.unusedSimpArgs false
section
variable {w : World} {pb : Nat} {L : List Tok} {tv lv : Value} {i : Nat}

set_option maxHeartbeats 1000000 in
set_option maxRecDepth 100000 in
theorem block_step {rec : Nat → Nat → Rp} {f : Nat} (H : Ctr pb L tv lv rec f) (HV : AdvA L rec) (hm : 20 * (L.length - i) + 15 ≤ f + 1) (h : PE w pb L tv lv i) (hi : i ≤ L.length) (hL : L.length ≤ 100000000) :
    Calls Tryz.prog 83 #[.pointer (some ⟨pb, 0, none⟩)] w (RQ w pb L tv lv w.heap.size (blockP L rec i)) := by
  have HH := hide H
  have HVV := hide HV
  clear H HV
  have HP := hide h
  have hpb := h.lt
  obtain ⟨R, hR⟩ : ∃ R, blockP L rec i = R := ⟨_, rfl⟩
  rw [hR]
  unfold blockP at hR
  have HQ := hide hR
  have HS0 := hide (St.of h (Ext.refl w))
  have hmf : ∀ (fn : Fn) (first cap : Array Value) (w : World), (Instr.makeFunc fn first cap).run Tryz.prog w = .ok (.func fn first cap) w := fun _ _ _ _ => rfl
  have g0 := fld0
  have g1 := fld1
  have g2 := fld2
  clear hR h
  go_enter Tryz.func83, Tryz.ntmps83
  have HC1 := hide (begin_any 6 none 0 0 (unhide HS0).pe (by omega) (by omega))
  go_wp2_with fail
  refine (unhide HC1).mono ?_
  rintro e w1 ⟨xb, rfl, hxb, hB, hx⟩
  have hxw : w.heap.size ≤ xb := by omega
  have HS1 := hide ((unhide HS0).ext hx)
  have hz1 : w.heap.size ≤ w1.heap.size := (unhide HS1).out.size
  clear hx HC1
  have N1 : Hid (ND w1 w.heap.size w.heap.size xb 6 [] [] 0 (tk L (i)).place (.slice none 0 0) []) := ND.new hB hxw
  clear hB
  obtain ⟨⟨j2, o2⟩, hR2⟩ : ∃ r : Nat × Option Unit, needP L [[123]] (i) = r := ⟨_, rfl⟩
  have ha2 := adv_need (L := L) [123] [] (i := i) (by omega) (by decide)
  have HC2 := hide (need_at [[123]] #[.string ⟨#[123]⟩] rfl (unhide HS1).pe (by simp) (by omega) (by omega))
  rw [hR2] at ha2 HC2 HQ
  clear hR2
  cases o2 with
  | none =>
    have HQn : Hid (R = (j2, none)) := (unhide HQ).symm
    go_wp2_with fail
    refine (unhide HC2).mono ?_
    rintro e w2 ⟨hs, rfl⟩
    have HSn := hide ((unhide HS1).trans hs)
    clear hs
    go_wp2
    exact ⟨rfl, RQ.pan (unhide HSn) (unhide HQn)⟩
  | some u2 =>
    have hj2 : i < j2 ∧ j2 ≤ L.length := ⟨ha2.2 rfl, ha2.1.2⟩
    rw [bnd_some (r := (j2, some u2)) rfl] at HQ
    clear ha2
    go_wp2_with fail
    refine (unhide HC2).mono ?_
    rintro e w2 ⟨hs, rfl⟩
    have HS2 := hide ((unhide HS1).trans hs)
    have hz2 : w.heap.size ≤ w2.heap.size := (unhide HS2).out.size
    have hy2 : w1.heap.size ≤ w2.heap.size := hs.out.size
    have N2 := hide ((unhide N1).out hs.out (by omega))
    clear N1
    clear hs HC2
    go_wp2
    go_loopw [11] (fun _ wr => ∃ (n k : Nat) (ao : Option Addr) (m cap : Nat) (acc : List (List Nd)), ND wr w.heap.size w.heap.size xb 6 [] [] 0 (tk L i).place (.slice ao m cap) acc ∧ St w pb L tv lv k wr ∧ bnd (blockL L (rec 12) n acc k) (fun k l => (k, some (mkN 6 [] [] 0 (tk L i).place l))) = R ∧ L.length < n + k ∧ i < k ∧ k ≤ L.length ∧ acc.length ≤ k) (fun _ wr => L.length - nextW wr pb)
    case atStart => exact ⟨L.length + 1, j2, none, 0, 0, [], unhide N2, unhide HS2, unhide HQ, by omega, by omega, by omega, by simp⟩
    case round =>
      obtain ⟨n, k, ao0, m0, cap0, acc, hnd, hst, hq, hn, hik, hkl, hac⟩ := hrel
      have N0 := hide hnd
      have HSr := hide hst
      have hzr : w.heap.size ≤ wr.heap.size := hst.out.size
      have hnx := hst.pe.next
      clear N2 HS2 HQ hnd hst
      have HQ := hide hq
      clear hq
      cases n with
      | zero => omega
      | succ n =>
        rw [blockL] at HQ
        by_cases ht : (tk L (k)).text = [125]
        · rw [if_pos ht] at HQ
          have hlt := text_lt ht (by decide)
          have HC3 := hide (skip_yes [125] (unhide HSr).pe ht (by omega) (by omega))
          clear ht
          go_wp2_with fail
          refine (unhide HC3).mono ?_
          rintro e w3 ⟨rfl, hs⟩
          have HS3 := hide ((unhide HSr).trans hs)
          have hz3 : w.heap.size ≤ w3.heap.size := (unhide HS3).out.size
          have hy3 : wr.heap.size ≤ w3.heap.size := hs.out.size
          have N3 := hide ((unhide N0).out hs.out (by omega))
          clear N0
          clear hs HC3
          go_wp2
          go_ret
          exact RQ.ok (unhide HS3) (unhide N3).part ((unhide HQ).symm)
        · rw [if_neg ht] at HQ
          have HC4 := hide (skip_no [125] (unhide HSr).pe ht (by omega) (by omega))
          clear ht
          go_wp2_with fail
          refine (unhide HC4).mono ?_
          rintro e w4 ⟨rfl, hx⟩
          have HS4 := hide ((unhide HSr).ext hx)
          have hz4 : w.heap.size ≤ w4.heap.size := (unhide HS4).out.size
          have hy4 : wr.heap.size ≤ w4.heap.size := hx.size
          have N4 := hide ((unhide N0).ext hx)
          clear N0
          clear hx HC4
          obtain ⟨⟨j5, o5⟩, hR5⟩ : ∃ r : Rp, rec 12 (k) = r := ⟨_, rfl⟩
          have ha5 := unhide HVV 12 (k) (by omega)
          have HC0 := unhide HH 12 (k) (w4.drew) (by decide) (show 20 * (L.length - (k)) + 16 ≤ f by omega) (by omega) ((unhide HS4).pe.ext ((Ext.refl w4).drew))
          rw [hR5] at ha5 HC0 HQ
          clear hR5
          cases o5 with
          | none =>
            have HQn : Hid (R = (j5, none)) := (unhide HQ).symm
            have HC5 := hide HC0
            clear HC0
            go_wp2
            have q5 := (unhide N4).blk.cell (i := 6) rfl
            go_region_law ((go_simp; go_at_call 97; refine (unhide HC5).mono ?_; rintro e w5 ⟨hs, rfl⟩; refine dummyLaw ⟨#[], []⟩ w5 (by have HSn := hide ((((unhide HS4).ext ((Ext.refl w4).drew))).trans hs); clear hs; go_wp2; exact ⟨rfl, RQ.pan (unhide HSn) (unhide HQn)⟩) ?_))
            all_goals trivial
          | some x5 =>
            have hj5 : k < j5 ∧ j5 ≤ L.length := ⟨ha5.2 rfl, ha5.1.2⟩
            rw [bnd_some (r := (j5, some x5)) rfl] at HQ
            clear ha5
            have HC5 : Hid (Calls Tryz.prog 97 #[.pointer (some ⟨pb, 0, none⟩)] (w4.drew) (fun e w6 => ∃ b ao cap w7, e = .returned (.pointer (some ⟨b, 0, none⟩)) ∧ w6.cell? ⟨xb, 6, none⟩ = some (.slice ao0 m0 cap0) ∧ (w6.alloc (.cells #[.pointer (some ⟨b, 0, none⟩)] 53)).cell? ⟨xb, 6, none⟩ = some (.slice ao0 m0 cap0) ∧ (Builtin.append_ #[76, 76] 76 #[.slice ao0 m0 cap0, .slice (some ⟨w6.heap.size, 0, none⟩) 1 1]).run Tryz.prog (w6.alloc (.cells #[.pointer (some ⟨b, 0, none⟩)] 53)) = .ok (.slice ao ((acc).length + 1) cap) w7 ∧ w7.cell? ⟨xb, 6, none⟩ = some (.slice ao0 m0 cap0) ∧ w7.frozen? ⟨xb, 6, none⟩ = false ∧ ND (w7.setCell ⟨xb, 6, none⟩ (.slice ao ((acc).length + 1) cap)) w.heap.size w.heap.size xb 6 [] [] 0 (tk L (i)).place (.slice ao ((acc).length + 1) cap) (acc ++ [x5]) ∧ St w pb L tv lv j5 (w7.setCell ⟨xb, 6, none⟩ (.slice ao ((acc).length + 1) cap)))) := by
              have hd := ((Ext.refl w4).drew)
              have hN := (unhide N4).ext hd
              refine HC0.mono ?_
              rintro e w6 ⟨hs, b, rfl, hp⟩
              have hN6 := hN.out hs.out (by omega)
              obtain ⟨ao, cap, w7, hrun, c7, f7, hg, hN7⟩ := hN6.app hp hN.blk.lt (fun m e => hN.row.lt m e) (by omega)
              exact ⟨b, ao, cap, w7, rfl, hN6.blk.cell rfl, (hN6.ext ((Ext.refl w6).alloc _)).blk.cell rfl, hrun, c7, f7, hN7, St.set (unhide HP) (St.grown (unhide HP) ((((unhide HS4).ext hd)).trans hs) hg (fun m e => hN.own m e)) hxw⟩
            clear HC0
            go_wp2
            have q5 := (unhide N4).blk.cell (i := 6) rfl
            go_region_law ((first | (refine step_run (by rfl) (.tmp 16) (.tmp 19) 76 (by rfl) (by rfl) (by rfl) hrun ?_) | (go_simp; go_at_call 97; refine (unhide HC5).mono ?_; rintro e w6 ⟨b, ao, cap, w7, rfl, c6, c6a, hrun, c7, f7, hF⟩)))
            all_goals go_wp2
            all_goals have hnn := hF.2.pe.next
            all_goals exact ⟨⟨n, j5, _, _, _, acc ++ [x5], hF.1, hF.2, unhide HQ, by omega, by omega, by omega, by rw [List.length_append]; simp; omega⟩, by omega⟩

end
end Go.Proofs.YtjfhhhabcbkahaaGreat
