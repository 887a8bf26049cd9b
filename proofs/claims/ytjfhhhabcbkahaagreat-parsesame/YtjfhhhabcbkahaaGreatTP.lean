/-
  Rules: fields, conditions.
-/
import Derived.Test.YtjfhhhabcbkahaaGreatTN
namespace Go.Proofs.YtjfhhhabcbkahaaGreat
open Go.RowKit
set_option linter.unusedVariables false
set_option linter.unusedSimpArgs false

/-- How many tokens are taken, as memory says it. -/
def nextW (w : World) (pb : Nat) : Nat := match w.cell? ⟨pb, 1, none⟩ with | some (.int _ n) => n.toNat | _ => 0
theorem PE.next {w : World} {pb : Nat} {L : List Tok} {tv lv : Value} {i : Nat} (h : PE w pb L tv lv i) : nextW w pb = i := by
  unfold nextW
  rw [h.blk.cell (i := 1) (v := .int .i64 i) rfl]
  simp
theorem assigning_any (w : World) : Calls Tryz.prog 108 #[] w fun e w' => e = .returned (.slice (some ⟨w.heap.size, 0, none⟩) 5 5) ∧ w' = w.alloc (.cells #[.string ⟨#[61]⟩, .string ⟨#[43, 61]⟩, .string ⟨#[45, 61]⟩, .string ⟨#[42, 61]⟩, .string ⟨#[47, 61]⟩] 9) := by
  go_enter Tryz.func108, Tryz.ntmps108
  go_wp2
  go_ret
  exact ⟨rfl, rfl⟩
theorem isPlace_any (k : Int) (a b c d e : Value) (w : World) : Calls Tryz.prog 107 #[.agg #[.int .i64 k, a, b, c, d, e]] w fun x w' => x = .returned (.bool (decide (k = 19) || decide (k = 18))) ∧ Ext w w' := by
  have hx : Ext w (w.alloc (.cells #[.int .i64 k, a, b, c, d, e] 39)) := (Ext.refl w).alloc _
  by_cases h1 : k = 19
  · subst h1
    go_enter Tryz.func107, Tryz.ntmps107
    go_wp2
    go_ret
    exact ⟨rfl, hx⟩
  · have f1 : (k == 19) = false := beq_eq_false_iff_ne.2 h1
    rw [decide_eq_false h1, Bool.false_or]
    by_cases h2 : k = 18
    · subst h2
      go_enter Tryz.func107, Tryz.ntmps107
      go_wp2
      go_ret
      exact ⟨rfl, hx⟩
    · have f2 : (k == 18) = false := beq_eq_false_iff_ne.2 h2
      rw [decide_eq_false h2]
      go_enter Tryz.func107, Tryz.ntmps107
      go_wp2
      go_ret
      exact ⟨rfl, hx⟩

section
variable {w : World} {pb : Nat} {L : List Tok} {tv lv : Value} {i : Nat}

set_option maxHeartbeats 2000000 in
set_option maxRecDepth 100000 in
theorem post_step {rec : Nat → Nat → Rp} {f : Nat} (H : Ctr pb L tv lv rec f) (HV : AdvA L rec) (hm : 20 * (L.length - i) + 3 ≤ f + 1) (h : PE w pb L tv lv i) (hi : i ≤ L.length) (hL : L.length ≤ 100000000) :
    Calls Tryz.prog 76 #[.pointer (some ⟨pb, 0, none⟩)] w (RQ w pb L tv lv w.heap.size (postP L rec i)) := by
  have HH := hide H
  have HVV := hide HV
  clear H HV
  have HP := hide h
  have hpb := h.lt
  obtain ⟨R, hR⟩ : ∃ R, postP L rec i = R := ⟨_, rfl⟩
  rw [hR]
  unfold postP at hR
  have HQ := hide hR
  have HS0 := hide (St.of h (Ext.refl w))
  have hmf : ∀ (fn : Fn) (first cap : Array Value) (w : World), (Instr.makeFunc fn first cap).run Tryz.prog w = .ok (.func fn first cap) w := fun _ _ _ _ => rfl
  have g0 := fld0
  have g1 := fld1
  have g2 := fld2
  clear hR h
  go_enter Tryz.func76, Tryz.ntmps76
  obtain ⟨⟨j1, o1⟩, hR1⟩ : ∃ r : Rp, rec 10 (i) = r := ⟨_, rfl⟩
  have ha1 := unhide HVV 10 (i) (by omega)
  have HC1 := hide (unhide HH 10 (i) w (by decide) (show 20 * (L.length - (i)) + 2 ≤ f by omega) (by omega) (unhide HS0).pe)
  rw [hR1] at ha1 HC1 HQ
  clear hR1
  cases o1 with
  | none =>
    have HQn : Hid (R = (j1, none)) := (unhide HQ).symm
    go_wp2_with fail
    refine (unhide HC1).mono ?_
    rintro e w1 ⟨hs, rfl⟩
    have HSn := hide ((unhide HS0).trans hs)
    clear hs
    go_wp2
    exact ⟨rfl, RQ.pan (unhide HSn) (unhide HQn)⟩
  | some x1 =>
    have hj1 : i < j1 ∧ j1 ≤ L.length := ⟨ha1.2 rfl, ha1.1.2⟩
    rw [bnd_some (r := (j1, some x1)) rfl] at HQ
    clear ha1
    go_wp2_with fail
    refine (unhide HC1).mono ?_
    rintro e w1 ⟨hs, b1, rfl, hp⟩
    have HS1 := hide ((unhide HS0).trans hs)
    have hz1 : w.heap.size ≤ w1.heap.size := (unhide HS1).out.size
    clear hs HC1
    have P1 := hide hp
    clear hp
    go_wp2
    go_loopw [3] (fun xv wr => ∃ (n k b : Nat) (x : List Nd), xv = .pointer (some ⟨b, 0, none⟩) ∧ PIn wr w.heap.size wr.heap.size b x ∧ St w pb L tv lv k wr ∧ postL L n x k = R ∧ L.length < n + k ∧ i ≤ k ∧ k ≤ L.length) (fun _ wr => L.length - nextW wr pb)
    case atStart => exact ⟨L.length + 1, j1, b1, x1, rfl, (unhide P1).wide (by omega) (unhide P1).top (Nat.le_refl _), unhide HS1, unhide HQ, by omega, by omega, by omega⟩
    case round =>
      obtain ⟨n, k, b, x, rfl, hpx, hst, hq, hn, hik, hkl⟩ := hrel
      have HX0 := hide hpx
      have HSr := hide hst
      have hzr : w.heap.size ≤ wr.heap.size := hst.out.size
      have hnx := hst.pe.next
      clear P1 HS1 HQ hpx hst
      have HQ := hide hq
      clear hq
      cases n with
      | zero => omega
      | succ n =>
        rw [postL] at HQ
        by_cases ht : (tk L (k)).text = [46]
        · rw [if_pos ht] at HQ
          have hlt := text_lt ht (by decide)
          have HC2 := hide (skip_yes [46] (unhide HSr).pe ht (by omega) (by omega))
          clear ht
          go_wp2_with fail
          refine (unhide HC2).mono ?_
          rintro e w2 ⟨rfl, hs⟩
          have HS2 := hide ((unhide HSr).trans hs)
          have hz2 : w.heap.size ≤ w2.heap.size := (unhide HS2).out.size
          have hy2 : wr.heap.size ≤ w2.heap.size := hs.out.size
          have HX02 := hide ((unhide HX0).out hs.out (fun m h1 h2 e => by omega))
          clear HX0
          clear hs HC2
          have X3 : Hid (Ext w2 (w2.alloc (.cells #[.pointer (some ⟨b, 0, none⟩)] 53))) := (Ext.refl w2).alloc _
          have HC3 := hide (begin_any 18 (some ⟨w2.heap.size, 0, none⟩) 1 1 ((unhide HS2).pe.ext (unhide X3)) (by omega) (by omega))
          have HG3 : Hid (Blk (w2.alloc (.cells #[.pointer (some ⟨b, 0, none⟩)] 53)) w2.heap.size #[.pointer (some ⟨b, 0, none⟩)] 53) := Blk.new _ _ _
          go_wp2_with fail
          refine (unhide HC3).mono ?_
          rintro e w3 ⟨xb, rfl, hxb, hB, hx0⟩
          have hx := (unhide X3).trans hx0
          have hxo : w2.heap.size < xb := by have := hxb; simp only [World.alloc, Array.size_push] at this; omega
          have N3 : Hid (ND w3 w.heap.size w.heap.size xb 18 [] [] 0 (tk L (k + 1)).place (.slice (some ⟨w2.heap.size, 0, none⟩) 1 1) [x]) := by
            have hp := (unhide HX02).ext hx
            have hB2 := (unhide HG3).ext hx0
            have hs1 := hx0.size
            have hs2 := hB.lt
            simp only [World.alloc, Array.size_push] at hs1
            have hp2 := hp.wide (lo' := w.heap.size) (hi' := w2.heap.size) (Nat.le_refl _) (by have := (unhide HX02).top; omega) (by omega)
            refine ⟨hB, by omega, by omega, ?_, fun m e => ?_⟩
            · exact ((PRs.one (lo := w.heap.size) (hi := w2.heap.size + 1) (X := fun b => b = xb) hp2 hB2 (by omega) (by omega) (by omega) (by omega) (fun m e => .inr (by omega))).wide (Nat.le_refl _) (by omega) (Nat.le_refl _))
            · have e2 : w2.heap.size = m := by simpa [Value.ownBlock] using e
              omega
          have hxw : w.heap.size ≤ xb := by omega
          have HS3 := hide ((unhide HS2).ext hx)
          have hz3 : w.heap.size ≤ w3.heap.size := (unhide HS3).out.size
          have hy3 : w2.heap.size ≤ w3.heap.size := hx.size
          clear hx HC3
          clear hB HG3 X3 hx0 HX02 hxb
          obtain ⟨⟨j4, o4⟩, hR4⟩ : ∃ r : Nat × Option Tok, takeP L (isNm L (k + 1)) (k + 1) = r := ⟨_, rfl⟩
          have ha4 := adv_take (L := L) (i := k + 1) (may := isNm L (k + 1)) (by omega) name_lt
          have HC4 := hide (name_any (unhide HS3).pe (by omega) (by omega))
          rw [hR4] at ha4 HC4 HQ
          clear hR4
          cases o4 with
          | none =>
            have HQn : Hid (R = (j4, none)) := (unhide HQ).symm
            go_wp2_with fail
            refine (unhide HC4).mono ?_
            rintro e w4 ⟨hs, rfl⟩
            have HSn := hide ((unhide HS3).trans hs)
            clear hs
            go_wp2
            exact ⟨rfl, RQ.pan (unhide HSn) (unhide HQn)⟩
          | some t4 =>
            have hj4 : k + 1 < j4 ∧ j4 ≤ L.length := ⟨ha4.2 rfl, ha4.1.2⟩
            rw [bnd_some (r := (j4, some t4)) rfl] at HQ
            clear ha4
            go_wp2_with fail
            refine (unhide HC4).mono ?_
            rintro e w4 ⟨hs, rfl⟩
            have HS4 := hide ((unhide HS3).trans hs)
            have hz4 : w.heap.size ≤ w4.heap.size := (unhide HS4).out.size
            have hy4 : w3.heap.size ≤ w4.heap.size := hs.out.size
            have N4 := hide ((unhide N3).out hs.out (by omega))
            clear N3
            clear hs HC4
            have q5 := (unhide N4).blk.cell (i := 2) rfl
            have fq5 := fun j => (unhide N4).blk.free j
            obtain ⟨w5, hw5⟩ : ∃ w5, w5 = w4.setCell ⟨xb, 2, none⟩ (.string ⟨t4.text.toArray⟩) := ⟨_, rfl⟩
            have N5 := hide ((unhide N4).setText t4.text)
            have HS5 := hide (St.set (c := 2) (v := .string ⟨t4.text.toArray⟩) (unhide HP) (unhide HS4) hxw)
            rw [← hw5] at N5 HS5
            have hz5 : w.heap.size ≤ w5.heap.size := (unhide HS5).out.size
            clear N4
            go_wp2
            rw [← hw5]
            clear hw5 q5 fq5
            have hnn := (unhide HS5).pe.next
            refine ⟨⟨n, j4, xb, _, rfl, (unhide N5).part, unhide HS5, unhide HQ, by omega, by omega, by omega⟩, by omega⟩
        · rw [if_neg ht] at HQ
          have HC6 := hide (skip_no [46] (unhide HSr).pe ht (by omega) (by omega))
          clear ht
          go_wp2_with fail
          refine (unhide HC6).mono ?_
          rintro e w6 ⟨rfl, hx⟩
          have HS6 := hide ((unhide HSr).ext hx)
          have hz6 : w.heap.size ≤ w6.heap.size := (unhide HS6).out.size
          have hy6 : wr.heap.size ≤ w6.heap.size := hx.size
          have HX06 := hide ((unhide HX0).ext hx)
          clear HX0
          clear hx HC6
          go_wp2
          go_ret
          exact RQ.ok (unhide HS6) ((unhide HX06).wide (by omega) (unhide HX06).top (Nat.le_refl _)) ((unhide HQ).symm)

set_option maxHeartbeats 2000000 in
set_option maxRecDepth 100000 in
theorem cond_step {rec : Nat → Nat → Rp} {f : Nat} (H : Ctr pb L tv lv rec f) (HV : AdvA L rec) (hm : 20 * (L.length - i) + 11 ≤ f + 1) (h : PE w pb L tv lv i) (hi : i ≤ L.length) (hL : L.length ≤ 100000000) :
    Calls Tryz.prog 106 #[.pointer (some ⟨pb, 0, none⟩)] w (RQ w pb L tv lv w.heap.size (condP L rec i)) := by
  have HH := hide H
  have HVV := hide HV
  clear H HV
  have HP := hide h
  have hpb := h.lt
  obtain ⟨R, hR⟩ : ∃ R, condP L rec i = R := ⟨_, rfl⟩
  rw [hR]
  unfold condP at hR
  have HQ := hide hR
  have HS0 := hide (St.of h (Ext.refl w))
  have hmf : ∀ (fn : Fn) (first cap : Array Value) (w : World), (Instr.makeFunc fn first cap).run Tryz.prog w = .ok (.func fn first cap) w := fun _ _ _ _ => rfl
  have g0 := fld0
  have g1 := fld1
  have g2 := fld2
  clear hR h
  go_enter Tryz.func106, Tryz.ntmps106
  obtain ⟨⟨j1, o1⟩, hR1⟩ : ∃ r : Rp, rec 2 (i) = r := ⟨_, rfl⟩
  have ha1 := unhide HVV 2 (i) (by omega)
  have HC1 := hide (unhide HH 2 (i) w (by decide) (show 20 * (L.length - (i)) + 10 ≤ f by omega) (by omega) (unhide HS0).pe)
  rw [hR1] at ha1 HC1 HQ
  clear hR1
  cases o1 with
  | none =>
    have HQn : Hid (R = (j1, none)) := (unhide HQ).symm
    go_wp2_with fail
    refine (unhide HC1).mono ?_
    rintro e w1 ⟨hs, rfl⟩
    have HSn := hide ((unhide HS0).trans hs)
    clear hs
    go_wp2
    exact ⟨rfl, RQ.pan (unhide HSn) (unhide HQn)⟩
  | some x1 =>
    have hj1 : i < j1 ∧ j1 ≤ L.length := ⟨ha1.2 rfl, ha1.1.2⟩
    rw [bnd_some (r := (j1, some x1)) rfl] at HQ
    clear ha1
    go_wp2_with fail
    refine (unhide HC1).mono ?_
    rintro e w1 ⟨hs, b1, rfl, hp⟩
    have HS1 := hide ((unhide HS0).trans hs)
    have hz1 : w.heap.size ≤ w1.heap.size := (unhide HS1).out.size
    clear hs HC1
    have P1 := hide hp
    clear hp
    by_cases ht : (tk L (j1)).text = [63]
    · rw [if_pos ht] at HQ
      have hlt := text_lt ht (by decide)
      have hc : [[63]].contains (tk L (j1)).text = true := by rw [con_one, decide_eq_true ht]
      have HC0 := isOne_at [[63]] #[.string ⟨#[63]⟩] rfl (unhide HS1).pe (by simp) (by omega) (by omega)
      rw [hc] at HC0
      have HC2 := hide HC0
      clear HC0 hc
      go_wp2_with fail
      refine (unhide HC2).mono ?_
      rintro e w2 ⟨rfl, hx⟩
      have HS2 := hide ((unhide HS1).ext hx)
      have hz2 : w.heap.size ≤ w2.heap.size := (unhide HS2).out.size
      have hy2 : w1.heap.size ≤ w2.heap.size := hx.size
      have P12 := hide ((unhide P1).ext hx)
      clear P1
      clear hx HC2
      have X3 : Hid (Ext w2 (w2.alloc (.cells #[.pointer (some ⟨b1, 0, none⟩)] 53))) := (Ext.refl w2).alloc _
      have HC3 := hide (begin_any 14 (some ⟨w2.heap.size, 0, none⟩) 1 1 ((unhide HS2).pe.ext (unhide X3)) (by omega) (by omega))
      have HG3 : Hid (Blk (w2.alloc (.cells #[.pointer (some ⟨b1, 0, none⟩)] 53)) w2.heap.size #[.pointer (some ⟨b1, 0, none⟩)] 53) := Blk.new _ _ _
      go_wp2_with fail
      refine (unhide HC3).mono ?_
      rintro e w3 ⟨xb, rfl, hxb, hB, hx0⟩
      have hx := (unhide X3).trans hx0
      have hxo : w2.heap.size < xb := by have := hxb; simp only [World.alloc, Array.size_push] at this; omega
      have N3 : Hid (ND w3 w.heap.size w.heap.size xb 14 [] [] 0 (tk L (j1)).place (.slice (some ⟨w2.heap.size, 0, none⟩) 1 1) [x1]) := by
        have hp := (unhide P12).ext hx
        have hB2 := (unhide HG3).ext hx0
        have hs1 := hx0.size
        have hs2 := hB.lt
        simp only [World.alloc, Array.size_push] at hs1
        have hp2 := hp.wide (lo' := w.heap.size) (hi' := w2.heap.size) (Nat.le_refl _) (by have := (unhide P12).top; omega) (by omega)
        refine ⟨hB, by omega, by omega, ?_, fun m e => ?_⟩
        · exact ((PRs.one (lo := w.heap.size) (hi := w2.heap.size + 1) (X := fun b => b = xb) hp2 hB2 (by omega) (by omega) (by omega) (by omega) (fun m e => .inr (by omega))).wide (Nat.le_refl _) (by omega) (Nat.le_refl _))
        · have e2 : w2.heap.size = m := by simpa [Value.ownBlock] using e
          omega
      have hxw : w.heap.size ≤ xb := by omega
      have HS3 := hide ((unhide HS2).ext hx)
      have hz3 : w.heap.size ≤ w3.heap.size := (unhide HS3).out.size
      have hy3 : w2.heap.size ≤ w3.heap.size := hx.size
      clear hx HC3
      clear hB HG3 X3 hx0 P12 hxb
      have HN4 : Hid (needP L [[63]] (j1) = (j1 + 1, some ())) := by show needP L [[63]] (j1) = _; rw [needP, if_pos ht, needP]
      have HC0 := need_at [[63]] #[.string ⟨#[63]⟩] rfl (unhide HS3).pe (by simp) (by omega) (by omega)
      rw [unhide HN4] at HC0
      have HC4 := hide HC0
      clear HC0 HN4
      go_wp2_with fail
      refine (unhide HC4).mono ?_
      rintro e w4 ⟨hs, rfl⟩
      have HS4 := hide ((unhide HS3).trans hs)
      have hz4 : w.heap.size ≤ w4.heap.size := (unhide HS4).out.size
      have hy4 : w3.heap.size ≤ w4.heap.size := hs.out.size
      have N4 := hide ((unhide N3).out hs.out (by omega))
      clear N3
      clear hs HC4
      clear ht
      obtain ⟨⟨j5, o5⟩, hR5⟩ : ∃ r : Rp, rec 0 (j1 + 1) = r := ⟨_, rfl⟩
      have ha5 := unhide HVV 0 (j1 + 1) (by omega)
      have HC0 := unhide HH 0 (j1 + 1) (w4.drew) (by decide) (show 20 * (L.length - (j1 + 1)) + 12 ≤ f by omega) (by omega) ((unhide HS4).pe.ext ((Ext.refl w4).drew))
      rw [hR5] at ha5 HC0 HQ
      clear hR5
      cases o5 with
      | none =>
        have HQn : Hid (R = (j5, none)) := (unhide HQ).symm
        have HC5 := hide HC0
        clear HC0
        go_wp2
        have q5 := (unhide N4).blk.cell (i := 6) rfl
        go_region_law ((go_simp; go_at_call 98; refine (unhide HC5).mono ?_; rintro e w5 ⟨hs, rfl⟩; refine dummyLaw ⟨#[], []⟩ w5 (by have HSn := hide ((((unhide HS4).ext ((Ext.refl w4).drew))).trans hs); clear hs; go_wp2; exact ⟨rfl, RQ.pan (unhide HSn) (unhide HQn)⟩) ?_))
        all_goals trivial
      | some x5 =>
        have hj5 : j1 + 1 < j5 ∧ j5 ≤ L.length := ⟨ha5.2 rfl, ha5.1.2⟩
        rw [bnd_some (r := (j5, some x5)) rfl] at HQ
        clear ha5
        have HC5 : Hid (Calls Tryz.prog 98 #[.pointer (some ⟨pb, 0, none⟩)] (w4.drew) (fun e w6 => ∃ b ao cap w7, e = .returned (.pointer (some ⟨b, 0, none⟩)) ∧ w6.cell? ⟨xb, 6, none⟩ = some (.slice (some ⟨w2.heap.size, 0, none⟩) 1 1) ∧ (w6.alloc (.cells #[.pointer (some ⟨b, 0, none⟩)] 53)).cell? ⟨xb, 6, none⟩ = some (.slice (some ⟨w2.heap.size, 0, none⟩) 1 1) ∧ (Builtin.append_ #[76, 76] 76 #[.slice (some ⟨w2.heap.size, 0, none⟩) 1 1, .slice (some ⟨w6.heap.size, 0, none⟩) 1 1]).run Tryz.prog (w6.alloc (.cells #[.pointer (some ⟨b, 0, none⟩)] 53)) = .ok (.slice ao (([x1]).length + 1) cap) w7 ∧ w7.cell? ⟨xb, 6, none⟩ = some (.slice (some ⟨w2.heap.size, 0, none⟩) 1 1) ∧ w7.frozen? ⟨xb, 6, none⟩ = false ∧ ND (w7.setCell ⟨xb, 6, none⟩ (.slice ao (([x1]).length + 1) cap)) w.heap.size w.heap.size xb 14 [] [] 0 (tk L (j1)).place (.slice ao (([x1]).length + 1) cap) ([x1] ++ [x5]) ∧ St w pb L tv lv j5 (w7.setCell ⟨xb, 6, none⟩ (.slice ao (([x1]).length + 1) cap)))) := by
          have hd := ((Ext.refl w4).drew)
          have hN := (unhide N4).ext hd
          refine HC0.mono ?_
          rintro e w6 ⟨hs, b, rfl, hp⟩
          have hN6 := hN.out hs.out (by omega)
          obtain ⟨ao, cap, w7, hrun, c7, f7, hg, hN7⟩ := hN6.app hp hN.blk.lt (fun m e => hN.row.lt m e) (by simp)
          exact ⟨b, ao, cap, w7, rfl, hN6.blk.cell rfl, (hN6.ext ((Ext.refl w6).alloc _)).blk.cell rfl, hrun, c7, f7, hN7, St.set (unhide HP) (St.grown (unhide HP) ((((unhide HS4).ext hd)).trans hs) hg (fun m e => hN.own m e)) hxw⟩
        clear HC0
        go_wp2
        go_cut [23] (fun p wc => ∃ w8 ao n cap, w8 = wc ∧ ND wc w.heap.size w.heap.size xb 14 [] [] 0 (tk L (j1)).place (.slice ao n cap) ([x1] ++ [x5]) ∧ St w pb L tv lv j5 wc)
        case first =>
          have q5 := (unhide N4).blk.cell (i := 6) rfl
          go_region_law ((first | (refine step_run (by rfl) (.tmp 23) (.tmp 26) 76 (by rfl) (by rfl) (by rfl) hrun ?_) | (go_simp; go_at_call 98; refine (unhide HC5).mono ?_; rintro e w6 ⟨b, ao, cap, w7, rfl, c6, c6a, hrun, c7, f7, hF⟩)))
          all_goals go_wp2
          all_goals go_meet
          all_goals exact ⟨_, ao, _, cap, rfl, hF.1, hF.2⟩
        case rest =>
          obtain ⟨w5, ao5, n5, cap5, rfl, hN, hS⟩ := hcut
          have N5 := hide hN
          have HS5 := hide hS
          have hz5 : w.heap.size ≤ w5.heap.size := hS.out.size
          clear hN hS HC5 N4
          obtain ⟨⟨j6, o6⟩, hR6⟩ : ∃ r : Nat × Option Unit, needP L [[58]] (j5) = r := ⟨_, rfl⟩
          have ha6 := lea_need (L := L) [[58]] (i := j5) (by omega) (by decide)
          have HC6 := hide (need_at [[58]] #[.string ⟨#[58]⟩] rfl (unhide HS5).pe (by simp) (by omega) (by omega))
          rw [hR6] at ha6 HC6 HQ
          clear hR6
          cases o6 with
          | none =>
            have HQn : Hid (R = (j6, none)) := (unhide HQ).symm
            go_wp2_with fail
            refine (unhide HC6).mono ?_
            rintro e w6 ⟨hs, rfl⟩
            have HSn := hide ((unhide HS5).trans hs)
            clear hs
            go_wp2
            exact ⟨rfl, RQ.pan (unhide HSn) (unhide HQn)⟩
          | some u6 =>
            have hj6 : j5 ≤ j6 ∧ j6 ≤ L.length := ha6
            rw [bnd_some (r := (j6, some u6)) rfl] at HQ
            clear ha6
            go_wp2_with fail
            refine (unhide HC6).mono ?_
            rintro e w6 ⟨hs, rfl⟩
            have HS6 := hide ((unhide HS5).trans hs)
            have hz6 : w.heap.size ≤ w6.heap.size := (unhide HS6).out.size
            have hy6 : w5.heap.size ≤ w6.heap.size := hs.out.size
            have N6 := hide ((unhide N5).out hs.out (by omega))
            clear N5
            clear hs HC6
            obtain ⟨⟨j7, o7⟩, hR7⟩ : ∃ r : Rp, rec 1 (j6) = r := ⟨_, rfl⟩
            have ha7 := unhide HVV 1 (j6) (by omega)
            have HC0 := unhide HH 1 (j6) (w6.drew) (by decide) (show 20 * (L.length - (j6)) + 11 ≤ f by omega) (by omega) ((unhide HS6).pe.ext ((Ext.refl w6).drew))
            rw [hR7] at ha7 HC0 HQ
            clear hR7
            cases o7 with
            | none =>
              have HQn : Hid (R = (j7, none)) := (unhide HQ).symm
              have HC7 := hide HC0
              clear HC0
              go_wp2
              have q7 := (unhide N6).blk.cell (i := 6) rfl
              go_region_law ((go_simp; go_at_call 106; refine (unhide HC7).mono ?_; rintro e w7 ⟨hs, rfl⟩; refine dummyLaw ⟨#[], []⟩ w7 (by have HSn := hide ((((unhide HS6).ext ((Ext.refl w6).drew))).trans hs); clear hs; go_wp2; exact ⟨rfl, RQ.pan (unhide HSn) (unhide HQn)⟩) ?_))
              all_goals trivial
            | some x7 =>
              have hj7 : j6 < j7 ∧ j7 ≤ L.length := ⟨ha7.2 rfl, ha7.1.2⟩
              rw [bnd_some (r := (j7, some x7)) rfl] at HQ
              clear ha7
              have HC7 : Hid (Calls Tryz.prog 106 #[.pointer (some ⟨pb, 0, none⟩)] (w6.drew) (fun e w6 => ∃ b ao cap w7, e = .returned (.pointer (some ⟨b, 0, none⟩)) ∧ w6.cell? ⟨xb, 6, none⟩ = some (.slice ao5 n5 cap5) ∧ (w6.alloc (.cells #[.pointer (some ⟨b, 0, none⟩)] 53)).cell? ⟨xb, 6, none⟩ = some (.slice ao5 n5 cap5) ∧ (Builtin.append_ #[76, 76] 76 #[.slice ao5 n5 cap5, .slice (some ⟨w6.heap.size, 0, none⟩) 1 1]).run Tryz.prog (w6.alloc (.cells #[.pointer (some ⟨b, 0, none⟩)] 53)) = .ok (.slice ao (([x1] ++ [x5]).length + 1) cap) w7 ∧ w7.cell? ⟨xb, 6, none⟩ = some (.slice ao5 n5 cap5) ∧ w7.frozen? ⟨xb, 6, none⟩ = false ∧ ND (w7.setCell ⟨xb, 6, none⟩ (.slice ao (([x1] ++ [x5]).length + 1) cap)) w.heap.size w.heap.size xb 14 [] [] 0 (tk L (j1)).place (.slice ao (([x1] ++ [x5]).length + 1) cap) ([x1] ++ [x5] ++ [x7]) ∧ St w pb L tv lv j7 (w7.setCell ⟨xb, 6, none⟩ (.slice ao (([x1] ++ [x5]).length + 1) cap)))) := by
                have hd := ((Ext.refl w6).drew)
                have hN := (unhide N6).ext hd
                refine HC0.mono ?_
                rintro e w6 ⟨hs, b, rfl, hp⟩
                have hN6 := hN.out hs.out (by omega)
                obtain ⟨ao, cap, w7, hrun, c7, f7, hg, hN7⟩ := hN6.app hp hN.blk.lt (fun m e => hN.row.lt m e) (by simp)
                exact ⟨b, ao, cap, w7, rfl, hN6.blk.cell rfl, (hN6.ext ((Ext.refl w6).alloc _)).blk.cell rfl, hrun, c7, f7, hN7, St.set (unhide HP) (St.grown (unhide HP) ((((unhide HS6).ext hd)).trans hs) hg (fun m e => hN.own m e)) hxw⟩
              clear HC0
              go_wp2
              go_cut [37] (fun p wc => ∃ w8 ao n cap, w8 = wc ∧ ND wc w.heap.size w.heap.size xb 14 [] [] 0 (tk L (j1)).place (.slice ao n cap) ([x1] ++ [x5] ++ [x7]) ∧ St w pb L tv lv j7 wc)
              case first =>
                have q7 := (unhide N6).blk.cell (i := 6) rfl
                go_region_law ((first | (refine step_run (by rfl) (.tmp 37) (.tmp 40) 76 (by rfl) (by rfl) (by rfl) hrun ?_) | (go_simp; go_at_call 106; refine (unhide HC7).mono ?_; rintro e w6 ⟨b, ao, cap, w7, rfl, c6, c6a, hrun, c7, f7, hF⟩)))
                all_goals go_wp2
                all_goals go_meet
                all_goals exact ⟨_, ao, _, cap, rfl, hF.1, hF.2⟩
              case rest =>
                obtain ⟨w7, ao7, n7, cap7, rfl, hN, hS⟩ := hcut
                have N7 := hide hN
                have HS7 := hide hS
                have hz7 : w.heap.size ≤ w7.heap.size := hS.out.size
                clear hN hS HC7 N6
                go_wp2
                go_ret
                exact RQ.ok (unhide HS7) (unhide N7).part ((unhide HQ).symm)
    · rw [if_neg ht] at HQ
      have hc : [[63]].contains (tk L (j1)).text = false := by rw [con_one, decide_eq_false ht]
      have HC0 := isOne_at [[63]] #[.string ⟨#[63]⟩] rfl (unhide HS1).pe (by simp) (by omega) (by omega)
      rw [hc] at HC0
      have HC8 := hide HC0
      clear HC0 hc
      go_wp2_with fail
      refine (unhide HC8).mono ?_
      rintro e w8 ⟨rfl, hx⟩
      have HS8 := hide ((unhide HS1).ext hx)
      have hz8 : w.heap.size ≤ w8.heap.size := (unhide HS8).out.size
      have hy8 : w1.heap.size ≤ w8.heap.size := hx.size
      have P18 := hide ((unhide P1).ext hx)
      clear P1
      clear hx HC8
      go_wp2
      go_ret
      exact RQ.ok (unhide HS8) ((unhide P18).wide (by omega) (unhide P18).top (Nat.le_refl _)) ((unhide HQ).symm)

end
end Go.Proofs.YtjfhhhabcbkahaaGreat
