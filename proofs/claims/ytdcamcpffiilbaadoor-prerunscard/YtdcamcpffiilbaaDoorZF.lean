/-
  define, undef.
-/
import Derived.Test.YtdcamcpffiilbaaDoorZE
namespace Go.Proofs.YtdcamcpffiilbaaDoor
open Go.RowKit
set_option linter.unusedVariables false
set_option linter.unusedSimpArgs false

/-- The tokens behind the first one: 'l[1:]'. -/
theorem TF.tail1 {T : Nat → Prop} {w : World} {b off n cap : Nat} {t : Tok} {L : List Tok} (h : TF T w (.slice (some ⟨b, off, none⟩) n cap) (t :: L)) : TF T w (.slice (if cap = 1 then some ⟨b, off, none⟩ else some ⟨b, off + 5, none⟩) L.length (cap - 1)) L := by
  by_cases h1 : cap = 1
  · rw [if_pos h1]
    obtain ⟨_, _, e, _, h2, h3, _⟩ := h.1
    cases e
    simp only [List.length_cons] at h2
    have hL : L = [] := List.length_eq_zero_iff.1 (by omega)
    subst hL
    exact ⟨⟨_, _, rfl, (fun e => by cases e), by simp, by omega, fun i hi => by simp at hi⟩, fun _ _ _ _ _ h => by simp at h⟩
  · rw [if_neg h1]
    exact h.tail (ao := none)

section
variable {w w' : World} {T T' : Nat → Prop} {base rb mb n : Nat} {po : Option Addr} {pc : Nat} {to : Option Addr} {tc : Nat} {E : Env} {ps : List Part} {tl : List Tok}
/-- The map turns. -/
theorem RD.inMap {g : Byts8 → Option Value} {F : Env} {m : Nat} (h : RD w T base rb mb n po pc to tc E ps tl) (hg : w.grownBy w' (some mb)) (hf : FM w' mb m g) (hs : ∀ k, Stnd T w' (g k) (F k)) : RD w' T base rb mb m po pc to tc F ps tl := by
  refine ⟨h.blk.grown hg h.ne, ⟨g, hf, hs⟩, ?_, ?_, h.trb, h.tmb, h.ne, h.tpo, h.tto, h.low, Nat.le_trans h.high hg.size⟩
  · refine World.ownsRow.kept h.parts hg ?_
    cases hv : (Value.slice po ps.length pc).ownBlock with
    | none => exact .inl rfl
    | some b => exact .inr (fun e => by cases e; exact (h.tpo _ hv).2.2 rfl)
  · refine World.ownsRow.kept h.told hg ?_
    cases hv : (Value.slice to tl.length tc).ownBlock with
    | none => exact .inl rfl
    | some b => exact .inr (fun e => by cases e; exact (h.tto _ hv).2.2.1 rfl)
theorem RD.putE (h : RD w T base rb mb n po pc to tc E ps tl) (k : Byts8) (hk : k.length ≤ maxLen) (hn : n < maxLen) (v : Value) (L : List Tok) (hv : TF T w v L) :
    ∃ w', (Instr.mapUpdate 37 (.map (some mb)) (.string ⟨k.toArray⟩) v).run Tryd.prog w = .ok () w' ∧ RD w' T base rb mb (n + 1) po pc to tc (setE E k (some L)) ps tl ∧ w.grownBy w' (some mb) := by
  obtain ⟨g, hg, hs⟩ := h.map
  obtain ⟨w', hrun, hf, hgr⟩ := hg.put (t := 37) (e := 23) Tryd.underlying37 hn k hk v
  have ho : Out T w w' := Out.of_grown hgr (fun k e => by cases e; exact h.tmb)
  refine ⟨w', hrun, h.inMap hgr hf (fun k' => ?_), hgr⟩
  unfold setE
  by_cases hkk : k' = k
  · rw [if_pos hkk, if_pos hkk]
    exact hv.out ho
  · rw [if_neg hkk, if_neg hkk]
    exact (hs k').out ho
theorem RD.delE (h : RD w T base rb mb n po pc to tc E ps tl) (k : Byts8) (hk : k.length ≤ maxLen) (ty : TypeId) :
    ∃ w', (Builtin.delete_ #[37, 9] ty #[.map (some mb), .string ⟨k.toArray⟩]).run Tryd.prog w = .ok (.tuple #[]) w' ∧ RD w' T base rb mb n po pc to tc (setE E k none) ps tl ∧ w.grownBy w' (some mb) := by
  obtain ⟨g, hg, hs⟩ := h.map
  obtain ⟨w', hrun, hf, hgr⟩ := hg.del (t := 37) (e := 23) Tryd.underlying37 k hk ty
  have ho : Out T w w' := Out.of_grown hgr (fun k e => by cases e; exact h.tmb)
  refine ⟨w', hrun, h.inMap hgr hf (fun k' => ?_), hgr⟩
  unfold setE
  by_cases hkk : k' = k
  · rw [if_pos hkk, if_pos hkk]
    trivial
  · rw [if_neg hkk, if_neg hkk]
    exact (hs k').out ho
end

set_option maxHeartbeats 4000000 in
set_option maxRecDepth 100000 in
theorem define_any {T : Nat → Prop} {base rb mb n : Nat} {po : Option Addr} {pc : Nat} {to : Option Addr} {tc : Nat} {E : Env} {ps : List Part} {tl : List Tok} (w : World) (h : RD w T base rb mb n po pc to tc E ps tl) (hn : n ≤ 1000000)
    (R : List Tok) (ro : Option Addr) (rc : Nat) (hR : TF T w (.slice ro R.length rc) R) (hlen : ∀ t ∈ R, t.text.length ≤ 1000000) (m : Int) (hm : w.cell? ⟨0, 0, none⟩ = some (.int .i64 m)) :
    Calls Tryd.prog 51 #[.pointer (some ⟨rb, 0, none⟩), .slice ro R.length rc] w (Did w T base rb mb n to tc tl ((defineP E R).map fun F => (F, ps))) := by
  have H := hide h
  have HR := hide hR
  have HM := hide hm
  clear h hR hm
  cases R with
  | nil =>
    have hq : ((defineP E []).map fun F => (F, ps)) = none := by unfold defineP; simp
    rw [hq]
    clear hq
    go_enter Tryd.func51, Tryd.ntmps51
    go_wp2
    go_ret
    exact ⟨Out.refl _ _, rfl⟩
  | cons x r =>
    obtain ⟨b, off, rfl, c⟩ := (unhide HR).1.at 0 (by simp)
    have cx := c.text
    simp only [Nat.zero_mul, Nat.add_zero, List.getElem_cons_zero] at cx
    clear c
    have hlx := hlen x (by simp)
    have hrc : r.length + 1 ≤ rc ∧ rc ≤ 9223372036854775807 := by
      obtain ⟨_, _, e, _, h2, h3, _⟩ := (unhide HR).1
      cases e
      unfold maxLen at h3
      simp at h2
      omega
    have HF := hide (fresh_any x.text w m (unhide HM))
    have b0 : ((r.length : Int) + 1 == 0) = false := beq_eq_false_iff_ne.2 (by omega)
    have hl : (x :: r).length = r.length + 1 := by simp
    obtain ⟨q, hq⟩ : ∃ q, q = ((defineP E (x :: r)).map fun F => (F, ps)) := ⟨_, rfl⟩
    rw [← hq]
    unfold defineP at hq
    rw [show (hd0 (x :: r)).text = x.text from rfl, show (x :: r).tail = r from rfl] at hq
    cases hf : freshP x.text with
    | false =>
      rw [hf] at hq HF
      have hq2 : q = none := by rw [hq]; simp
      subst hq2
      clear hq hf
      rw [hl] at *
      go_enter Tryd.func51, Tryd.ntmps51
      go_wp2_with fail
      refine (unhide HF).mono ?_
      rintro e w1 ⟨rfl, hx1⟩
      have X1 := hide hx1
      clear hx1
      go_wp2
      go_ret
      exact ⟨Out.of_ext (unhide X1), rfl⟩
    | true =>
      rw [hf] at hq HF
      obtain ⟨ao0, m0, cap0, hlook, _⟩ := (unhide H).look x.text (by unfold maxLen; omega)
      have HLK := hide hlook
      clear hlook hf
      cases hst : (E x.text).isSome with
      | true =>
        rw [hst] at HLK hq
        have hq2 : q = none := by rw [hq]; simp
        subst hq2
        clear hq hst
        rw [hl] at *
        go_enter Tryd.func51, Tryd.ntmps51
        go_wp2_with fail
        refine (unhide HF).mono ?_
        rintro e w1 ⟨rfl, hx1⟩
        have X1 := hide hx1
        clear hx1
        have hrun := unhide HLK w1 (unhide X1)
        have c0 := ((unhide H).ext (unhide X1)).blk.cell (i := 0) (v := .map (some mb)) rfl
        have cx1 : w1.cell? ⟨b, off + 1, none⟩ = some (.string ⟨x.text.toArray⟩) := by
          rw [(unhide X1).cell (p := ⟨b, off + 1, none⟩) (World.block_lt_of_cell? w _ cx)]
          exact cx
        go_wp2
        go_ret
        exact ⟨Out.of_ext (unhide X1), rfl⟩
      | false =>
        rw [hst] at HLK hq
        have hq2 : q = some (setE E x.text (some r), ps) := by rw [hq]; simp
        subst hq2
        clear hq hst
        have HTL : Hid (∀ w1, Ext w w1 → TF T w1 (.slice (if rc = 1 then some ⟨b, off, none⟩ else some ⟨b, off + 5, none⟩) r.length (rc - 1)) r) := fun w1 hx => ((unhide HR).ext hx).tail1
        rw [hl] at *
        go_enter Tryd.func51, Tryd.ntmps51
        go_wp2_with fail
        refine (unhide HF).mono ?_
        rintro e w1 ⟨rfl, hx1⟩
        have X1 := hide hx1
        clear hx1
        have hrun := unhide HLK w1 (unhide X1)
        have c0 := ((unhide H).ext (unhide X1)).blk.cell (i := 0) (v := .map (some mb)) rfl
        have cx1 : w1.cell? ⟨b, off + 1, none⟩ = some (.string ⟨x.text.toArray⟩) := by
          rw [(unhide X1).cell (p := ⟨b, off + 1, none⟩) (World.block_lt_of_cell? w _ cx)]
          exact cx
        obtain ⟨w2, hput, hrd, hgr⟩ := ((unhide H).ext (unhide X1).drew).putE x.text (by unfold maxLen; omega) (by unfold maxLen; omega) _ r (unhide HTL w1.drew (unhide X1).drew)
        have HRD := hide hrd
        have HGR := hide hgr
        clear hrd hgr
        go_wp2
        go_region
        go_wp2
        all_goals
          go_ret
          exact ⟨(Out.of_ext (unhide X1).drew).trans (Out.of_grown (T := T) (unhide HGR) (fun k e => by cases e; exact (unhide H).tmb)) (fun b hb => .inl hb), rfl, T, _, _, Wid.refl _ _, unhide HRD⟩

set_option maxHeartbeats 4000000 in
set_option maxRecDepth 100000 in
theorem undef_any {T : Nat → Prop} {base rb mb n : Nat} {po : Option Addr} {pc : Nat} {to : Option Addr} {tc : Nat} {E : Env} {ps : List Part} {tl : List Tok} (w : World) (h : RD w T base rb mb n po pc to tc E ps tl)
    (R : List Tok) (ro : Option Addr) (rc : Nat) (hR : TF T w (.slice ro R.length rc) R) (hlen : ∀ t ∈ R, t.text.length ≤ 1000000) (m : Int) (hm : w.cell? ⟨0, 0, none⟩ = some (.int .i64 m)) :
    Calls Tryd.prog 52 #[.pointer (some ⟨rb, 0, none⟩), .slice ro R.length rc] w (Did w T base rb mb n to tc tl ((undefP E R).map fun F => (F, ps))) := by
  have H := hide h
  have HR := hide hR
  have HM := hide hm
  clear h hR hm
  have HW := isWordT_any R ro rc w (unhide HR).1
  obtain ⟨q, hq⟩ : ∃ q, q = ((undefP E R).map fun F => (F, ps)) := ⟨_, rfl⟩
  rw [← hq]
  unfold undefP at hq
  cases hw : isWordL R with
  | false =>
    rw [hw] at HW hq
    have hq2 : q = none := by rw [hq]; simp
    subst hq2
    have HWW := hide HW
    clear hq hw HW
    go_enter Tryd.func52, Tryd.ntmps52
    go_wp2_with fail
    refine (unhide HWW).mono ?_
    rintro e w1 ⟨rfl, rfl⟩
    go_wp2
    go_ret
    exact ⟨Out.refl _ _, rfl⟩
  | true =>
    obtain ⟨x, hx, _⟩ := isWord_one hw
    subst hx
    rw [hw] at HW hq
    rw [show (hd0 [x]).text = x.text from rfl] at hq
    have HWW := hide HW
    obtain ⟨b, off, rfl, c⟩ := (unhide HR).1.at 0 (by simp)
    have cx := c.text
    simp only [Nat.zero_mul, Nat.add_zero, List.getElem_cons_zero] at cx
    have hlx := hlen x (by simp)
    have HF := hide (fresh_any x.text w m (unhide HM))
    clear HW hw c
    cases hf : freshP x.text with
    | false =>
      rw [hf] at hq HF
      have hq2 : q = none := by rw [hq]; simp
      subst hq2
      clear hq hf
      go_enter Tryd.func52, Tryd.ntmps52
      go_wp2_with fail
      refine (unhide HWW).mono ?_
      rintro e w1 ⟨rfl, rfl⟩
      go_wp2_with fail
      refine (unhide HF).mono ?_
      rintro e w1 ⟨rfl, hx1⟩
      have X1 := hide hx1
      clear hx1
      go_wp2
      go_ret
      exact ⟨Out.of_ext (unhide X1), rfl⟩
    | true =>
      rw [hf] at hq HF
      have hq2 : q = some (setE E x.text none, ps) := by rw [hq]; simp
      subst hq2
      clear hq hf
      go_enter Tryd.func52, Tryd.ntmps52
      go_wp2_with fail
      refine (unhide HWW).mono ?_
      rintro e w1 ⟨rfl, rfl⟩
      go_wp2_with fail
      refine (unhide HF).mono ?_
      rintro e w1 ⟨rfl, hx1⟩
      have X1 := hide hx1
      clear hx1
      have c0 := ((unhide H).ext (unhide X1)).blk.cell (i := 0) (v := .map (some mb)) rfl
      have cx1 : w1.cell? ⟨b, off + 1, none⟩ = some (.string ⟨x.text.toArray⟩) := by
        rw [(unhide X1).cell (p := ⟨b, off + 1, none⟩) (World.block_lt_of_cell? _ _ cx)]
        exact cx
      obtain ⟨w2, hput, hrd, hgr⟩ := ((unhide H).ext (unhide X1).drew).delE x.text (by unfold maxLen; omega) 0
      have HRD := hide hrd
      have HGR := hide hgr
      clear hrd hgr
      go_wp2
      go_region
      go_wp2
      go_ret
      refine ⟨(Out.of_ext (unhide X1).drew).trans (Out.of_grown (T := T) (unhide HGR) (fun k e => by cases e; exact (unhide H).tmb)) (fun b hb => .inl hb), rfl, T, _, _, Wid.refl _ _, (unhide HRD).more (Nat.le_succ _)⟩
end Go.Proofs.YtdcamcpffiilbaaDoor
