/-
  Rules: operators in a row.
-/
import Derived.Test.YtjfhhhabcbkahaaGreatTP
namespace Go.Proofs.YtjfhhhabcbkahaaGreat
open Go.RowKit
set_option linter.unusedVariables false
set_option linter.unusedSimpArgs false
section
variable {w : World} {pb : Nat} {L : List Tok} {tv lv : Value} {i : Nat}

theorem sameEnters : ∀ args w, (callFunc 54 args).run Tryz.prog w = .ok (.enter 54 args) w := fun _ _ => by simp [go_sem]
set_option maxHeartbeats 2000000 in
set_option maxRecDepth 100000 in
theorem row1_any {rec : Nat → Nat → Rp} {f : Nat} (H : Ctr pb L tv lv rec f) (HV : AdvA L rec) (hm : 20 * (L.length - i) + 9 ≤ f + 1) (h : PE w pb L tv lv i) (hi : i ≤ L.length) (hL : L.length ≤ 100000000) :
    Calls Tryz.prog 73 #[.pointer (some ⟨pb, 0, none⟩), .int .i64 1] w (RQ w pb L tv lv w.heap.size (rowP L rec 1 i)) := by
  have HH := hide H
  have HVV := hide HV
  clear H HV
  have HP := hide h
  have hpb := h.lt
  obtain ⟨R, hR⟩ : ∃ R, rowP L rec 1 i = R := ⟨_, rfl⟩
  rw [hR]
  unfold rowP at hR
  have HQ := hide hR
  have HS0 := hide (St.of h (Ext.refl w))
  have hmf : ∀ (fn : Fn) (first cap : Array Value) (w : World), (Instr.makeFunc fn first cap).run Tryz.prog w = .ok (.func fn first cap) w := fun _ _ _ _ => rfl
  have g0 := fld0
  have g1 := fld1
  have g2 := fld2
  clear hR h
  obtain ⟨lb, rfl, hlb, hlv⟩ := (unhide HP).lev
  obtain ⟨ov, l0', l1', hsf⟩ := hlv 1 (by decide)
  have HSF0 := hide hsf
  obtain ⟨oo, oc, rfl, _, _, _⟩ := hsf
  have HSF : Hid (SF (fun b => b = pb) w (.slice oo 1 oc) (opsW 1)) := unhide HSF0
  have l0 : w.cell? ⟨lb, 2, none⟩ = some (.func (.func 54) #[.pointer (some ⟨pb, 0, none⟩)] #[]) := l0'
  have l1 : w.cell? ⟨lb, 3, none⟩ = some (.slice oo 1 oc) := l1'
  have c2 := (unhide HP).blk.cell (i := 2) (v := .slice (some ⟨lb, 0, none⟩) 6 6) rfl
  obtain ⟨wa, hwa⟩ : ∃ wa, wa = w.alloc (.cells #[.func (.func 54) #[.pointer (some ⟨pb, 0, none⟩)] #[], .slice oo 1 oc] 86) := ⟨_, rfl⟩
  obtain ⟨rb, hrb⟩ : ∃ rb, rb = w.heap.size := ⟨_, rfl⟩
  have HB : Hid (Blk wa rb #[.func (.func 54) #[.pointer (some ⟨pb, 0, none⟩)] #[], .slice oo 1 oc] 86) := by rw [hwa, hrb]; exact Blk.new _ _ _
  have HXA : Hid (Ext w wa) := by rw [hwa]; exact (Ext.refl w).alloc _
  have HSa := hide ((unhide HS0).ext (unhide HXA))
  have hza : w.heap.size ≤ wa.heap.size := (unhide HXA).size
  have hrw : w.heap.size ≤ rb := Nat.le_of_eq hrb.symm
  have HWA := hide hwa
  have HRB := hide hrb
  have r0 := (unhide HB).cell (i := 0) (v := .func (.func 54) #[.pointer (some ⟨pb, 0, none⟩)] #[]) rfl
  have r1 := (unhide HB).cell (i := 1) (v := .slice oo 1 oc) rfl
  rw [unhide HWA, unhide HRB] at r0 r1
  clear hwa hrb l0' l1' hlv HSF0 hlb
  go_enter Tryz.func73, Tryz.ntmps73
  obtain ⟨⟨j2, o2⟩, hR2⟩ : ∃ r : Rp, rec (3 + 1) i = r := ⟨_, rfl⟩
  have ha2 := unhide HVV (3 + 1) i (by omega)
  have HC2 := hide (unhide HH 4 i wa (by decide) (show 20 * (L.length - i) + 8 ≤ f by omega) (by omega) (unhide HSa).pe)
  rw [hR2] at ha2 HC2 HQ
  clear hR2
  cases o2 with
  | none =>
    have HQn : Hid (R = (j2, none)) := (unhide HQ).symm
    go_wp2_with fail
    rw [← unhide HWA, ← unhide HRB]
    clear l0 l1 c2 r0 r1
    refine (unhide HC2).mono ?_
    rintro e w2 ⟨hs, rfl⟩
    have HSn := hide ((unhide HSa).trans hs)
    clear hs
    go_wp2
    exact ⟨rfl, RQ.pan (unhide HSn) (unhide HQn)⟩
  | some x2 =>
    have hj2 : i < j2 ∧ j2 ≤ L.length := ⟨ha2.2 rfl, ha2.1.2⟩
    rw [bnd_some (r := (j2, some x2)) rfl] at HQ
    clear ha2
    go_wp2_with fail
    rw [← unhide HWA, ← unhide HRB]
    clear l0 l1 c2 r0 r1
    refine (unhide HC2).mono ?_
    rintro e w2 ⟨hs, b2, rfl, hp⟩
    have HSO := hide hs
    have HS2 := hide ((unhide HSa).trans hs)
    have hz2 : w.heap.size ≤ w2.heap.size := (unhide HS2).out.size
    have hy2 : wa.heap.size ≤ w2.heap.size := hs.out.size
    clear hs HC2
    have P2 := hide hp
    clear hp
    have HBs := hide ((unhide HB).out (unhide HSO).out (by omega))
    go_wp2
    go_loopw [6] (fun xv wr => ∃ (n k b : Nat) (x : List Nd), xv = .pointer (some ⟨b, 0, none⟩) ∧ PIn wr w.heap.size wr.heap.size b x ∧ St w pb L tv (.slice (some ⟨lb, 0, none⟩) 6 6) k wr ∧ Blk wr rb #[.func (.func 54) #[.pointer (some ⟨pb, 0, none⟩)] #[], .slice oo 1 oc] 86 ∧ rowL L (rec 4) (opsW 1) n x k = R ∧ L.length < n + k ∧ i ≤ k ∧ k ≤ L.length) (fun _ wr => L.length - nextW wr pb)
    case atStart => exact ⟨L.length + 1, j2, b2, x2, rfl, (unhide P2).wide (by omega) (unhide P2).top (Nat.le_refl _), unhide HS2, unhide HBs, unhide HQ, by omega, by omega, by omega⟩
    case round =>
      obtain ⟨n, k, b, x, rfl, hpx, hst, hbr, hq, hn, hik, hkl⟩ := hrel
      have HX0 := hide hpx
      have HSr := hide hst
      have HBr := hide hbr
      have hzr : w.heap.size ≤ wr.heap.size := hst.out.size
      have hnx := hst.pe.next
      clear P2 HS2 HQ HBs HB hpx hst hbr
      have HQ := hide hq
      clear hq
      cases n with
      | zero => omega
      | succ n =>
        rw [rowL] at HQ
        have r0 := (unhide HBr).cell (i := 0) rfl
        have r1 := (unhide HBr).cell (i := 1) rfl
        have HC0 := isOne_any (unhide HSr).pe ((unhide HSF).out (unhide HSr).out) (by omega) (by omega)
        by_cases hc : (opsW 1).contains (tk L k).text = true
        · rw [if_pos hc] at HQ
          have hlt := con_lt hc (by decide)
          rw [hc] at HC0
          clear hc
          have HC3 := hide HC0
          clear HC0
          go_wp2_with fail
          refine (unhide HC3).mono ?_
          rintro e w3 ⟨rfl, hx⟩
          have HXO := hide hx
          have HS3 := hide ((unhide HSr).ext hx)
          have hz3 : w.heap.size ≤ w3.heap.size := (unhide HS3).out.size
          have hy3 : wr.heap.size ≤ w3.heap.size := hx.size
          have HX03 := hide ((unhide HX0).ext hx)
          clear HX0
          clear hx HC3
          clear r0 r1
          have HBq := hide ((unhide HBr).ext (unhide HXO))
          have r0 := (unhide HBq).cell (i := 0) rfl
          obtain ⟨⟨j4, o4⟩, hR4⟩ : ∃ r : Rp, operP L 15 x (rec 4) (k) = r := ⟨_, rfl⟩
          have ha4 := adv_oper (L := L) (kind := 15) (side := x) (rule := rec 4) (i := k) (fun k h1 h2 => unhide HVV 4 k h2) hlt
          have HC4 := hide (operate_any 54 (rec 4) ⟨sameEnters, fun k wk h1 h2 hk => unhide HH 4 k wk (by decide) (show 20 * (L.length - k) + 8 ≤ f by omega) h2 hk, fun k h1 h2 => unhide HVV 4 k h2⟩ 15 ((unhide HX03).wide (lo' := w.heap.size) (by omega) (unhide HX03).top (Nat.le_refl _)) hpb (by omega) hlt (unhide HS3).pe (by omega) hL)
          rw [hR4] at ha4 HC4 HQ
          clear hR4
          cases o4 with
          | none =>
            have HQn : Hid (R = (j4, none)) := (unhide HQ).symm
            go_wp2_with fail
            refine (unhide HC4).mono ?_
            rintro e w4 ⟨hs, rfl⟩
            have HSn := hide ((unhide HS3).trans hs)
            clear hs
            go_wp2
            exact ⟨rfl, RQ.pan (unhide HSn) (unhide HQn)⟩
          | some x4 =>
            have hj4 : k < j4 ∧ j4 ≤ L.length := ⟨ha4.2 rfl, ha4.1.2⟩
            rw [bnd_some (r := (j4, some x4)) rfl] at HQ
            clear ha4
            go_wp2_with fail
            refine (unhide HC4).mono ?_
            rintro e w4 ⟨hs, b4, rfl, hp⟩
            have HBz := hide ((unhide HBq).out hs.out (by omega))
            have HS4 := hide ((unhide HS3).trans hs)
            have hz4 : w.heap.size ≤ w4.heap.size := (unhide HS4).out.size
            have hy4 : w3.heap.size ≤ w4.heap.size := hs.out.size
            clear hs HC4
            have P4 := hide hp
            clear hp
            go_wp2
            have hnn := (unhide HS4).pe.next
            refine ⟨⟨n, j4, b4, x4, rfl, unhide P4, unhide HS4, unhide HBz, unhide HQ, by omega, by omega, by omega⟩, by omega⟩
        · rw [if_neg hc] at HQ
          rw [Bool.eq_false_iff.2 hc] at HC0
          clear hc
          have HC5 := hide (HC0)
          go_wp2_with fail
          refine (unhide HC5).mono ?_
          rintro e w5 ⟨rfl, hx⟩
          have HS5 := hide ((unhide HSr).ext hx)
          have hz5 : w.heap.size ≤ w5.heap.size := (unhide HS5).out.size
          have hy5 : wr.heap.size ≤ w5.heap.size := hx.size
          have HX05 := hide ((unhide HX0).ext hx)
          clear HX0
          clear hx HC5
          go_wp2
          go_ret
          exact RQ.ok (unhide HS5) ((unhide HX05).wide (by omega) (unhide HX05).top (Nat.le_refl _)) ((unhide HQ).symm)
set_option maxHeartbeats 2000000 in
set_option maxRecDepth 100000 in
theorem and_step {rec : Nat → Nat → Rp} {f : Nat} (H : Ctr pb L tv lv rec f) (HV : AdvA L rec) (hm : 20 * (L.length - i) + 9 ≤ f + 1) (h : PE w pb L tv lv i) (hi : i ≤ L.length) (hL : L.length ≤ 100000000) :
    Calls Tryz.prog 53 #[.pointer (some ⟨pb, 0, none⟩)] w (RQ w pb L tv lv w.heap.size (rowP L rec 1 i)) := by
  have HH := hide H
  have HVV := hide HV
  clear H HV
  have HP := hide h
  have hpb := h.lt
  obtain ⟨R, hR⟩ : ∃ R, rowP L rec 1 i = R := ⟨_, rfl⟩
  rw [hR]
  have HQ := hide hR
  have HS0 := hide (St.of h (Ext.refl w))
  have hmf : ∀ (fn : Fn) (first cap : Array Value) (w : World), (Instr.makeFunc fn first cap).run Tryz.prog w = .ok (.func fn first cap) w := fun _ _ _ _ => rfl
  have g0 := fld0
  have g1 := fld1
  have g2 := fld2
  clear hR h
  go_enter Tryz.func53, Tryz.ntmps53
  obtain ⟨⟨j1, o1⟩, hR1⟩ : ∃ r : Rp, rowP L rec 1 i = r := ⟨_, rfl⟩
  have HC0 := row1_any (unhide HH) (unhide HVV) hm (unhide HP) hi hL
  rw [hR1] at HC0 HQ
  have HC1 := hide HC0
  clear hR1 HC0
  cases o1 with
  | none =>
    have HQn : Hid (R = (j1, none)) := (unhide HQ).symm
    go_wp2_with fail
    refine (unhide HC1).mono ?_
    rintro e w1 ⟨hs, rfl⟩
    have HSn := hide ((unhide HS0).trans hs)
    clear hs
    go_wp2
    exact ⟨rfl, RQ.pan (unhide HSn) (unhide HQn)⟩
  | some x1 =>
    go_wp2_with fail
    refine (unhide HC1).mono ?_
    rintro e w1 ⟨hs, b1, rfl, hp⟩
    have HS1 := hide ((unhide HS0).trans hs)
    have hz1 : w.heap.size ≤ w1.heap.size := (unhide HS1).out.size
    clear hs HC1
    have P1 := hide hp
    clear hp
    go_wp2
    go_ret
    exact RQ.ok (unhide HS1) ((unhide P1).wide (by omega) (unhide P1).top (Nat.le_refl _)) ((unhide HQ).symm)

end
end Go.Proofs.YtjfhhhabcbkahaaGreat
