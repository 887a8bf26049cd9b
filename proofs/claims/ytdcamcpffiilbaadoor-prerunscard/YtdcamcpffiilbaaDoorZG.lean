/-
  obey: what a directive does.
-/
import Derived.Test.YtdcamcpffiilbaaDoorZF
namespace Go.Proofs.YtdcamcpffiilbaaDoor
open Go.RowKit
set_option linter.unusedVariables false
set_option linter.unusedSimpArgs false

theorem Did.from {w w1 : World} {T : Nat → Prop} {base rb mb n : Nat} {to : Option Addr} {tc : Nat} {tl : List Tok} {q : Option (Env × List Part)} {e : Ending} {w' : World} (h : Did w1 T base rb mb n to tc tl q e w') (hx : Ext w w1) : Did w T base rb mb n to tc tl q e w' := by
  refine ⟨(Out.of_ext hx).trans h.1 (fun b hb => .inl hb), ?_⟩
  have h2 := h.2
  cases q with
  | none => exact h2
  | some p =>
    obtain ⟨he, T', po, pc, hw, hr⟩ := h2
    refine ⟨he, T', po, pc, hw.low hx.size, hr⟩
theorem Did.value {w : World} {T : Nat → Prop} {base rb mb n : Nat} {to : Option Addr} {tc : Nat} {tl : List Tok} {q : Option (Env × List Part)} {e : Ending} {w' : World} (h : Did w T base rb mb n to tc tl q e w') : e = .returned (.bool q.isSome) := by
  have h2 := h.2
  cases q with
  | none => exact h2
  | some p => exact h2.1

set_option maxHeartbeats 4000000 in
set_option maxRecDepth 100000 in
theorem obey_any {T : Nat → Prop} {base rb mb n : Nat} {po : Option Addr} {pc : Nat} {to : Option Addr} {tc : Nat} {E : Env} {ps : List Part} {tl : List Tok} (w : World) (h : RD w T base rb mb n po pc to tc E ps tl) (hps : ps.length ≤ 100000) (hn : n ≤ 1000000)
    (R : List Tok) (ro : Option Addr) (rc : Nat) (hR : TF T w (.slice ro R.length rc) R) (hlen : ∀ t ∈ R, t.text.length ≤ 1000000) (m : Int) (hS : Std w m) (first : Bool) :
    Calls Tryd.prog 21 #[.pointer (some ⟨rb, 0, none⟩), .slice ro R.length rc, .bool first] w (Did w T base rb mb n to tc tl (obeyP E ps R first)) := by
  have H := hide h
  have HR := hide hR
  have HS := hide hS
  clear h hR hS
  cases R with
  | nil =>
    show Calls _ _ _ _ (Did w T base rb mb n to tc tl (some (E, ps)))
    go_enter Tryd.func21, Tryd.ntmps21
    go_wp2
    go_ret
    exact ⟨Out.refl _ _, rfl, T, po, pc, Wid.refl _ _, (unhide H).more (Nat.le_succ _)⟩
  | cons x r =>
    obtain ⟨b, off, rfl, c⟩ := (unhide HR).1.at 0 (by simp)
    have cx := c.text
    simp only [Nat.zero_mul, Nat.add_zero, List.getElem_cons_zero] at cx
    clear c
    have hlr : ∀ t ∈ r, t.text.length ≤ 1000000 := fun t ht => hlen t (by simp [ht])
    have hrc : r.length + 1 ≤ rc ∧ rc ≤ 9223372036854775807 := by
      obtain ⟨_, _, e, _, h2, h3, _⟩ := (unhide HR).1
      cases e
      unfold maxLen at h3
      simp at h2
      omega
    have b0 : ((r.length : Int) + 1 == 0) = false := beq_eq_false_iff_ne.2 (by omega)
    have hl : (x :: r).length = r.length + 1 := by simp
    have HTL : Hid (TF T w (.slice (if rc = 1 then some ⟨b, off, none⟩ else some ⟨b, off + 5, none⟩) r.length (rc - 1)) r) := (unhide HR).tail1
    have i0 : (0 : Int) ≤ 0 ∧ (0 : Int) < (r.length : Int) + 1 := ⟨by omega, by omega⟩
    have i1 : (1 : Int) ≤ (r.length : Int) + 1 := by omega
    clear hlen
    rw [hl]
    go_enter Tryd.func21, Tryd.ntmps21
    go_wp2
    go_quiet (fail)
    obtain ⟨rn, hrn⟩ : ∃ rn, rn = (if rc = 1 then some (⟨b, off, none⟩ : Addr) else some ⟨b, off + 5, none⟩) := ⟨_, rfl⟩
    rw [← hrn] at HTL
    rw [← hrn]
    clear hrn HR cx i0 i1 b0
    have X1 : Hid (Ext w (w.drewN nq)) := (Ext.refl w).drewN nq
    obtain ⟨w1, hw1⟩ : ∃ w1, w1 = w.drewN nq := ⟨_, rfl⟩
    rw [← hw1] at X1
    rw [← hw1]
    clear hw1
    have H1 := hide ((unhide H).ext (unhide X1))
    have HT1 := hide ((unhide HTL).ext (unhide X1))
    have HS1 := hide ((unhide HS).ext (unhide X1))
    clear HTL
    obtain ⟨q, hq⟩ : ∃ q, q = obeyP E ps (x :: r) first := ⟨_, rfl⟩
    have HQ := hide hq
    unfold obeyP at HQ
    simp only at HQ
    have hgoal : ∀ e w', Did w1 T base rb mb n to tc tl q e w' → Did w T base rb mb n to tc tl (obeyP E ps (x :: r) first) e w' := fun e w' hd => by rw [← hq]; exact hd.from (unhide X1)
    have HG := hide hgoal
    clear hgoal hq
    by_cases t : x.text = tIfdef
    · have hx : x.text = [105, 102, 100, 101, 102] := t
      rw [if_pos t] at HQ
      rw [hx]
      clear t hx
      have hq := unhide HQ
      subst hq
      go_wp2_with fail
      refine (open_any w1 (unhide H1) hps r rn (rc - 1) (unhide HT1).1 hlr true).mono ?_
      rintro e w2 hd
      obtain ⟨v, rfl⟩ : ∃ v, e = Ending.returned (.bool v) := ⟨_, hd.value⟩
      have HD := hide hd
      clear hd
      go_wp2
      go_ret
      exact unhide HG _ _ (unhide HD)
    have f1 : (x.text == [105, 102, 100, 101, 102]) = false := beq_eq_false_iff_ne.2 t
    rw [if_neg t] at HQ
    clear t
    by_cases t : x.text = tIfndef
    · have hx : x.text = [105, 102, 110, 100, 101, 102] := t
      rw [if_pos t] at HQ
      rw [hx]
      clear t hx
      have hq := unhide HQ
      subst hq
      go_wp2_with fail
      refine (open_any w1 (unhide H1) hps r rn (rc - 1) (unhide HT1).1 hlr false).mono ?_
      rintro e w2 hd
      obtain ⟨v, rfl⟩ : ∃ v, e = Ending.returned (.bool v) := ⟨_, hd.value⟩
      have HD := hide hd
      clear hd
      go_wp2
      go_ret
      exact unhide HG _ _ (unhide HD)
    have f2 : (x.text == [105, 102, 110, 100, 101, 102]) = false := beq_eq_false_iff_ne.2 t
    rw [if_neg t] at HQ
    clear t
    by_cases t : x.text = tElse
    · have hx : x.text = [101, 108, 115, 101] := t
      rw [if_pos t] at HQ
      rw [hx]
      clear t hx
      have hq := unhide HQ
      subst hq
      go_wp2_with fail
      refine (turn_any w1 (unhide H1) hps).mono ?_
      rintro e w2 hd
      obtain ⟨v, rfl⟩ : ∃ v, e = Ending.returned (.bool v) := ⟨_, hd.value⟩
      have HD := hide hd
      clear hd
      go_wp2
      go_ret
      exact unhide HG _ _ (unhide HD)
    have f3 : (x.text == [101, 108, 115, 101]) = false := beq_eq_false_iff_ne.2 t
    rw [if_neg t] at HQ
    clear t
    by_cases t : x.text = tEndif
    · have hx : x.text = [101, 110, 100, 105, 102] := t
      rw [if_pos t] at HQ
      rw [hx]
      clear t hx
      have hq := unhide HQ
      subst hq
      go_wp2_with fail
      refine (end_any w1 (unhide H1) hps).mono ?_
      rintro e w2 hd
      obtain ⟨v, rfl⟩ : ∃ v, e = Ending.returned (.bool v) := ⟨_, hd.value⟩
      have HD := hide hd
      clear hd
      go_wp2
      go_ret
      exact unhide HG _ _ (unhide HD)
    have f4 : (x.text == [101, 110, 100, 105, 102]) = false := beq_eq_false_iff_ne.2 t
    rw [if_neg t] at HQ
    clear t
    have HC := hide (counts_any w1 (unhide H1) hps)
    cases hc : countsP ps with
    | false =>
      rw [hc] at HC HQ
      rw [if_pos rfl] at HQ
      have hq := unhide HQ
      subst hq
      clear hc
      go_wp2_with fail
      refine (unhide HC).mono ?_
      rintro e w2 ⟨rfl, k2, rfl⟩
      go_wp2
      go_ret
      exact unhide HG _ _ ⟨Out.of_ext ((Ext.refl w1).drewN k2), rfl, T, po, pc, Wid.refl _ _, ((unhide H1).ext ((Ext.refl w1).drewN k2)).more (Nat.le_succ _)⟩
    | true =>
      rw [hc] at HC HQ
      rw [if_neg (by decide)] at HQ
      clear hc
      go_wp2_with fail
      refine (unhide HC).mono ?_
      rintro e w2 ⟨rfl, k2, rfl⟩
      have X2 : Hid (Ext w1 (w1.drewN k2)) := (Ext.refl w1).drewN k2
      obtain ⟨w2, hw2⟩ : ∃ w2, w2 = w1.drewN k2 := ⟨_, rfl⟩
      rw [← hw2] at X2
      rw [← hw2]
      clear hw2
      have H2 := hide ((unhide H1).ext (unhide X2))
      have HT2 := hide ((unhide HT1).ext (unhide X2))
      have HS2 := hide ((unhide HS1).ext (unhide X2))
      have HG2 : Hid (∀ e w', Did w2 T base rb mb n to tc tl q e w' → Did w T base rb mb n to tc tl (obeyP E ps (x :: r) first) e w') := fun e w' hd => unhide HG e w' (hd.from (unhide X2))
      clear H1 HT1 HS1 HG HC
      have HG := HG2
      clear HG2
      by_cases t : x.text = tVersion
      · have hx : x.text = [118, 101, 114, 115, 105, 111, 110] := t
        rw [if_pos t] at HQ
        rw [hx]
        clear t hx
        cases first with
        | false =>
          have hq : q = none := by rw [unhide HQ]; simp
          subst hq
          go_wp2
          go_ret
          exact unhide HG _ _ ⟨Out.refl _ _, rfl⟩
        | true =>
          go_wp2_with fail
          refine (whole_any 100 w2 m (by decide) (by decide) (unhide HS2)).mono ?_
          rintro e w3 ⟨ao3, cap3, rfl, hO3, hx3⟩
          have X3 := hide hx3
          have HSM := hide (same_any r (wholeL 100) rn ao3 (rc - 1) cap3 w3 ((unhide HT2).1.ext hx3) hO3.tr)
          clear hO3 hx3
          cases hsm : sameK r (wholeL 100) with
          | false =>
            have hq : q = none := by rw [unhide HQ, hsm]; simp
            rw [hsm] at HSM
            subst hq
            clear hsm
            go_wp2_with fail
            refine (unhide HSM).mono ?_
            rintro e w4 ⟨rfl, hx4⟩
            have X4 := hide ((unhide X3).trans hx4)
            clear hx4
            go_wp2
            go_ret
            exact unhide HG _ _ ⟨Out.of_ext (unhide X4), rfl⟩
          | true =>
            have hq : q = some (E, ps) := by rw [unhide HQ, hsm]; simp
            rw [hsm] at HSM
            subst hq
            clear hsm
            go_wp2_with fail
            refine (unhide HSM).mono ?_
            rintro e w4 ⟨rfl, hx4⟩
            have X4 := hide ((unhide X3).trans hx4)
            clear hx4
            go_wp2
            go_ret
            exact unhide HG _ _ ⟨Out.of_ext (unhide X4), rfl, T, po, pc, Wid.refl _ _, ((unhide H2).ext (unhide X4)).more (Nat.le_succ _)⟩
      have f5 : (x.text == [118, 101, 114, 115, 105, 111, 110]) = false := beq_eq_false_iff_ne.2 t
      rw [if_neg t] at HQ
      clear t
      by_cases t : x.text = tDefine
      · have hx : x.text = [100, 101, 102, 105, 110, 101] := t
        rw [if_pos t] at HQ
        rw [hx]
        clear t hx
        have hq := unhide HQ
        subst hq
        go_wp2_with fail
        refine (define_any w2 (unhide H2) hn r rn (rc - 1) (unhide HT2) hlr m (unhide HS2).1).mono ?_
        rintro e w2 hd
        obtain ⟨v, rfl⟩ : ∃ v, e = Ending.returned (.bool v) := ⟨_, hd.value⟩
        have HD := hide hd
        clear hd
        go_wp2
        go_ret
        exact unhide HG _ _ (unhide HD)
      have f6 : (x.text == [100, 101, 102, 105, 110, 101]) = false := beq_eq_false_iff_ne.2 t
      rw [if_neg t] at HQ
      clear t
      by_cases t : x.text = tUndef
      · have hx : x.text = [117, 110, 100, 101, 102] := t
        rw [if_pos t] at HQ
        rw [hx]
        clear t hx
        have hq := unhide HQ
        subst hq
        go_wp2_with fail
        refine (undef_any w2 (unhide H2) r rn (rc - 1) (unhide HT2) hlr m (unhide HS2).1).mono ?_
        rintro e w2 hd
        obtain ⟨v, rfl⟩ : ∃ v, e = Ending.returned (.bool v) := ⟨_, hd.value⟩
        have HD := hide hd
        clear hd
        go_wp2
        go_ret
        exact unhide HG _ _ (unhide HD)
      have f7 : (x.text == [117, 110, 100, 101, 102]) = false := beq_eq_false_iff_ne.2 t
      rw [if_neg t] at HQ
      clear t
      have hq := unhide HQ
      subst hq
      go_wp2
      go_ret
      exact unhide HG _ _ ⟨Out.refl _ _, rfl⟩
end Go.Proofs.YtdcamcpffiilbaaDoor
