/-
  Rules: functions.
-/
import Derived.Test.YtjfhhhabcbkahaaGreatTW
namespace Go.Proofs.YtjfhhhabcbkahaaGreat
open Go.RowKit
set_option linter.unusedVariables false
set_option linter.unusedSimpArgs false

theorem sevL_len {L : List Tok} {rule : Nat → Rp} : ∀ (n : Nat) (acc : List (List Nd)) (i j : Nat) (l : List (List Nd)), sevL L rule n acc i = (j, some l) → l.length ≤ acc.length + n
  | 0, acc, i, j, l, h => by rw [sevL] at h; cases (Prod.mk.inj h).2
  | n + 1, acc, i, j, l, h => by
    rw [sevL] at h
    split at h
    · obtain ⟨⟨k, o⟩, hr⟩ : ∃ r : Rp, rule (i + 1) = r := ⟨_, rfl⟩
      rw [hr] at h
      cases o with
      | none => cases (Prod.mk.inj h).2
      | some x =>
        have := sevL_len n (acc ++ [x]) k j l h
        simp at this
        omega
    · have e := Option.some.inj (Prod.mk.inj h).2
      subst e
      omega
/-- How many parts there are in parentheses. -/
theorem enc_len {L : List Tok} {rule : Nat → Rp} {i j : Nat} {o : Option (List (List Nd))} (h : encP L rule i = (j, o)) : ∀ l, o = some l → l.length ≤ L.length + 2 := by
  intro l e
  subst e
  unfold encP at h
  obtain ⟨⟨k, o⟩, hr⟩ : ∃ r : Nat × Option Unit, needP L [[40]] i = r := ⟨_, rfl⟩
  rw [hr] at h
  cases o with
  | none => cases (Prod.mk.inj h).2
  | some u =>
    rw [bnd_some (r := (k, some u)) rfl] at h
    split at h
    · have e := Option.some.inj (Prod.mk.inj h).2
      subst e
      simp
    · unfold sevP at h
      obtain ⟨⟨k1, o1⟩, hr1⟩ : ∃ r : Rp, rule k = r := ⟨_, rfl⟩
      rw [hr1] at h
      cases o1 with
      | none => cases (Prod.mk.inj h).2
      | some x =>
        rw [bnd_some (r := (k1, some x)) rfl] at h
        obtain ⟨⟨k2, o2⟩, hr2⟩ : ∃ r : Rl, sevL L rule (L.length + 1) [x] k1 = r := ⟨_, rfl⟩
        rw [hr2] at h
        cases o2 with
        | none => cases (Prod.mk.inj h).2
        | some l2 =>
          rw [bnd_some (r := (k2, some l2)) rfl] at h
          obtain ⟨⟨k3, o3⟩, hr3⟩ : ∃ r : Nat × Option Unit, needP L [[41]] k2 = r := ⟨_, rfl⟩
          rw [hr3] at h
          cases o3 with
          | none => cases (Prod.mk.inj h).2
          | some u3 =>
            have e := Option.some.inj (Prod.mk.inj h).2
            subst e
            have := sevL_len _ _ _ _ _ hr2
            simp at this
            omega

section
variable {w : World} {pb : Nat} {L : List Tok} {tv lv : Value} {i : Nat}

set_option maxHeartbeats 1000000 in
set_option maxRecDepth 100000 in
theorem func_any {rec : Nat → Nat → Rp} {f : Nat} (H : Ctr pb L tv lv rec f) (HV : AdvA L rec) (hm : 20 * (L.length - i) + 16 ≤ f + 1) (h : PE w pb L tv lv i) (hi : i ≤ L.length) (hL : L.length ≤ 100000000) :
    Calls Tryz.prog 61 #[.pointer (some ⟨pb, 0, none⟩)] w (RQ w pb L tv lv w.heap.size (funcP L rec i)) := by
  have HH := hide H
  have HVV := hide HV
  clear H HV
  have HP := hide h
  have hpb := h.lt
  obtain ⟨R, hR⟩ : ∃ R, funcP L rec i = R := ⟨_, rfl⟩
  rw [hR]
  unfold funcP at hR
  have HQ := hide hR
  have HS0 := hide (St.of h (Ext.refl w))
  have hmf : ∀ (fn : Fn) (first cap : Array Value) (w : World), (Instr.makeFunc fn first cap).run Tryz.prog w = .ok (.func fn first cap) w := fun _ _ _ _ => rfl
  have g0 := fld0
  have g1 := fld1
  have g2 := fld2
  clear hR h
  go_enter Tryz.func61, Tryz.ntmps61
  have HC1 := hide (begin_any 4 none 0 0 (unhide HS0).pe (by omega) (by omega))
  go_wp2_with fail
  refine (unhide HC1).mono ?_
  rintro e w1 ⟨xb, rfl, hxb, hB, hx⟩
  have hxw : w.heap.size ≤ xb := by omega
  have HS1 := hide ((unhide HS0).ext hx)
  have hz1 : w.heap.size ≤ w1.heap.size := (unhide HS1).out.size
  clear hx HC1
  have N1 : Hid (ND w1 w.heap.size w.heap.size xb 4 [] [] 0 (tk L (i)).place (.slice none 0 0) []) := ND.new hB hxw
  clear hB
  obtain ⟨⟨j2, o2⟩, hR2⟩ : ∃ r : Nat × Option Tok, takeP L (isTypeW (tk L (i)).text) (i) = r := ⟨_, rfl⟩
  have ha2 := adv_take (L := L) (i := i) (may := isTypeW (tk L (i)).text) (by omega) type_lt
  have HC2 := hide (typeWord_any (unhide HS1).pe (by omega) (by omega))
  rw [hR2] at ha2 HC2 HQ
  clear hR2
  cases o2 with
  | none =>
    have HQn : Hid (R = (j2, none)) := (unhide HQ).symm
    go_wp2_with fail
    refine (unhide HC2).mono ?_
    rintro e w2 ⟨hs, rfl⟩
    have HSn := hide ((unhide HS1).trans hs)
    clear hs
    go_wp2
    exact ⟨rfl, RQ.pan (unhide HSn) (unhide HQn)⟩
  | some t2 =>
    have hj2 : i < j2 ∧ j2 ≤ L.length := ⟨ha2.2 rfl, ha2.1.2⟩
    rw [bnd_some (r := (j2, some t2)) rfl] at HQ
    clear ha2
    go_wp2_with fail
    refine (unhide HC2).mono ?_
    rintro e w2 ⟨hs, rfl⟩
    have HS2 := hide ((unhide HS1).trans hs)
    have hz2 : w.heap.size ≤ w2.heap.size := (unhide HS2).out.size
    have hy2 : w1.heap.size ≤ w2.heap.size := hs.out.size
    have N2 := hide ((unhide N1).out hs.out (by omega))
    clear N1
    clear hs HC2
    have q3 := (unhide N2).blk.cell (i := 1) rfl
    have fq3 := fun j => (unhide N2).blk.free j
    obtain ⟨w3, hw3⟩ : ∃ w3, w3 = w2.setCell ⟨xb, 1, none⟩ (.string ⟨t2.text.toArray⟩) := ⟨_, rfl⟩
    have HZ3 : Hid (w2.heap.size = w3.heap.size) := by show w2.heap.size = w3.heap.size; rw [hw3]; simp
    have N3 := hide ((unhide N2).setType t2.text)
    have HS3 := hide (St.set (c := 1) (v := .string ⟨t2.text.toArray⟩) (unhide HP) (unhide HS2) hxw)
    rw [← hw3] at N3 HS3
    have hz3 : w.heap.size ≤ w3.heap.size := (unhide HS3).out.size
    clear N2
    obtain ⟨⟨j4, o4⟩, hR4⟩ : ∃ r : Nat × Option Tok, takeP L (isNm L (j2)) (j2) = r := ⟨_, rfl⟩
    have ha4 := adv_take (L := L) (i := j2) (may := isNm L (j2)) (by omega) name_lt
    have HC4 := hide (name_any (unhide HS3).pe (by omega) (by omega))
    rw [hR4] at ha4 HC4 HQ
    clear hR4
    cases o4 with
    | none =>
      have HQn : Hid (R = (j4, none)) := (unhide HQ).symm
      go_wp2_with fail
      rw [← hw3]
      first | rw [unhide HZ3] | skip
      clear hw3 q3 fq3
      refine (unhide HC4).mono ?_
      rintro e w4 ⟨hs, rfl⟩
      have HSn := hide ((unhide HS3).trans hs)
      clear hs
      go_wp2
      exact ⟨rfl, RQ.pan (unhide HSn) (unhide HQn)⟩
    | some t4 =>
      have hj4 : j2 < j4 ∧ j4 ≤ L.length := ⟨ha4.2 rfl, ha4.1.2⟩
      rw [bnd_some (r := (j4, some t4)) rfl] at HQ
      clear ha4
      go_wp2_with fail
      rw [← hw3]
      first | rw [unhide HZ3] | skip
      clear hw3 q3 fq3
      refine (unhide HC4).mono ?_
      rintro e w4 ⟨hs, rfl⟩
      have HS4 := hide ((unhide HS3).trans hs)
      have hz4 : w.heap.size ≤ w4.heap.size := (unhide HS4).out.size
      have hy4 : w3.heap.size ≤ w4.heap.size := hs.out.size
      have N4 := hide ((unhide N3).out hs.out (by omega))
      clear N3
      clear hs HC4
      have q5 := (unhide N4).blk.cell (i := 2) rfl
      have fq5 := fun j => (unhide N4).blk.free j
      obtain ⟨w5, hw5⟩ : ∃ w5, w5 = w4.setCell ⟨xb, 2, none⟩ (.string ⟨t4.text.toArray⟩) := ⟨_, rfl⟩
      have HZ5 : Hid (w4.heap.size = w5.heap.size) := by show w4.heap.size = w5.heap.size; rw [hw5]; simp
      have N5 := hide ((unhide N4).setText t4.text)
      have HS5 := hide (St.set (c := 2) (v := .string ⟨t4.text.toArray⟩) (unhide HP) (unhide HS4) hxw)
      rw [← hw5] at N5 HS5
      have hz5 : w.heap.size ≤ w5.heap.size := (unhide HS5).out.size
      clear N4
      obtain ⟨⟨j6, o6⟩, hR6⟩ : ∃ r : Rl, encP L (paramP L) (j4) = r := ⟨_, rfl⟩
      have HLL0 := enc_len (L := L) (rule := paramP L) hR6
      have ha6 := adv_enc (L := L) (rule := paramP L) (i := j4) (fun k h1 h2 => adv_param h2) (by omega)
      have HC6 := hide (enclosed_any 82 (paramP L) ⟨paramEnters, fun k wk h1 h2 hk => param_any hk h2 hL, fun k h1 h2 => adv_param h2⟩ (unhide HS5).pe (by omega) hL)
      rw [hR6] at ha6 HC6 HQ
      clear hR6
      cases o6 with
      | none =>
        have HQn : Hid (R = (j6, none)) := (unhide HQ).symm
        go_wp2_with fail
        rw [← hw5]
        first | rw [unhide HZ5] | skip
        clear hw5 q5 fq5
        refine (unhide HC6).mono ?_
        rintro e w6 ⟨hs, rfl⟩
        have HSn := hide ((unhide HS5).trans hs)
        clear hs
        go_wp2
        exact ⟨rfl, RQ.pan (unhide HSn) (unhide HQn)⟩
      | some l6 =>
        have hj6 : j4 < j6 ∧ j6 ≤ L.length := ⟨ha6.2 rfl, ha6.1.2⟩
        rw [bnd_some (r := (j6, some l6)) rfl] at HQ
        clear ha6
        have hxl : xb < w5.heap.size := (unhide N5).blk.lt
        go_wp2_with fail
        rw [← hw5]
        first | rw [unhide HZ5] | skip
        clear hw5 q5 fq5
        refine (unhide HC6).mono ?_
        rintro e w6 ⟨hs, ao, cap, rfl, hp⟩
        have HS6 := hide ((unhide HS5).trans hs)
        have hz6 : w.heap.size ≤ w6.heap.size := (unhide HS6).out.size
        have hy6 : w5.heap.size ≤ w6.heap.size := hs.out.size
        have N6 := hide ((unhide N5).out hs.out (by omega))
        clear N5
        clear hs HC6
        have HLL : Hid (_ ≤ 1000000000000) := show _ ≤ 1000000000000 from Nat.le_trans (HLL0 _ rfl) (by omega)
        have PR := hide (hp.imp (X' := fun b => b = xb) (fun m e => .inr (.inr (by omega))))
        clear hp
        have hva := (unhide PR).lt
        obtain ⟨⟨j7, o7⟩, hR7⟩ : ∃ r : Rp, rec 13 (j6) = r := ⟨_, rfl⟩
        have ha7 := unhide HVV 13 (j6) (by omega)
        have HC7 := hide (unhide HH 13 (j6) w6 (by decide) (show 20 * (L.length - (j6)) + 15 ≤ f by omega) (by omega) (unhide HS6).pe)
        rw [hR7] at ha7 HC7 HQ
        clear hR7
        cases o7 with
        | none =>
          have HQn : Hid (R = (j7, none)) := (unhide HQ).symm
          go_wp2_with fail
          refine (unhide HC7).mono ?_
          rintro e w7 ⟨hs, rfl⟩
          have HSn := hide ((unhide HS6).trans hs)
          clear hs
          go_wp2
          exact ⟨rfl, RQ.pan (unhide HSn) (unhide HQn)⟩
        | some x7 =>
          have hj7 : j6 < j7 ∧ j7 ≤ L.length := ⟨ha7.2 rfl, ha7.1.2⟩
          rw [bnd_some (r := (j7, some x7)) rfl] at HQ
          clear ha7
          go_wp2_with fail
          refine (unhide HC7).mono ?_
          rintro e w7 ⟨hs, b7, rfl, hp⟩
          have hr := ((unhide PR).out hs.out (fun m e => .inl (by omega))).wide (Nat.le_refl _) hs.out.size (Nat.le_refl _)
          have hgeR := (unhide PR).ge
          have HS7 := hide ((unhide HS6).trans hs)
          have hz7 : w.heap.size ≤ w7.heap.size := (unhide HS7).out.size
          have hy7 : w6.heap.size ≤ w7.heap.size := hs.out.size
          have N7 := hide ((unhide N6).out hs.out (by omega))
          clear N6
          clear hs HC7
          obtain ⟨ao9, cap9, w9, hrun, hr9, hg9, hloc⟩ := hr.app hp (by omega) hva (fun m e => by omega) (by omega) (unhide HLL)
          have hne : (Value.slice ao l6.length cap).ownBlock ≠ some xb := fun e => by have := hgeR xb e; omega
          have hB9 : Blk w9 xb (ndC 4 (t2.text) (t4.text) 0 (tk L (i)).place (.slice none 0 0)) 78 := (hg9.block xb (unhide N7).blk.lt (fun e => hne e.symm)).trans (unhide N7).blk
          have q9 := hB9.cell (i := 6) rfl
          have fq9 := fun j => hB9.free j
          have N9 : Hid (ND (w9.setCell ⟨xb, 6, none⟩ (.slice ao9 (l6.length + 1) cap9)) w.heap.size w.heap.size xb 4 (t2.text) (t4.text) 0 (tk L (i)).place (.slice ao9 (l6.length + 1) cap9) (l6 ++ [x7])) := ND.setKids (kv := .slice none 0 0) (l := []) ⟨hB9, hxw, Nat.le_refl _, PRs.nil _ _ _ _ (Nat.le_refl _), fun _ e => by cases e⟩ (hr9.wide (by omega) (Nat.le_refl _) (Nat.le_refl _)) (fun m e => by
            rcases hloc m e with h6 | h6
            · have := hgeR m h6; omega
            · omega)
          have HS9 : Hid (St w pb L tv lv j7 (w9.setCell ⟨xb, 6, none⟩ (.slice ao9 (l6.length + 1) cap9))) := St.set (unhide HP) (St.grown (unhide HP) (unhide HS7) hg9 (fun m e => by have := hgeR m e; omega)) hxw
          clear hr hp hr9 hg9 hB9 hne hloc hgeR N7 HS7 PR
          go_wp2_with (refine wpList_run (by rfl) (.tmp 22) (.tmp 25) 76 (by rfl) (by rfl) (by rfl) hrun ?_)
          go_ret
          exact RQ.ok (unhide HS9) (unhide N9).part (unhide HQ).symm

end
end Go.Proofs.YtjfhhhabcbkahaaGreat
