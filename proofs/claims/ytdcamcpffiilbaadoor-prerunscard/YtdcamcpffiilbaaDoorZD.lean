/-
  turn, end, open.
-/
import Derived.Test.YtdcamcpffiilbaaDoorZC
import Derived.Deep.RegionLaw
namespace Go.Proofs.YtdcamcpffiilbaaDoor
open Go.RowKit
set_option linter.unusedVariables false
set_option linter.unusedSimpArgs false

section
variable {w w' : World} {T T' : Nat → Prop} {base rb mb n : Nat} {po : Option Addr} {pc : Nat} {to : Option Addr} {tc : Nat} {E : Env} {ps : List Part} {tl : List Tok}
/-- The parts turn within their block. -/
theorem RD.inParts {g : Nat} {qs : List Part} (h : RD w T base rb mb n (some ⟨g, 0, none⟩) pc to tc E ps tl) (hg : w.grownBy w' (some g)) (hq : qs.length = ps.length) (hp : PO w' base (.slice (some ⟨g, 0, none⟩) ps.length pc) qs) : RD w' T base rb mb n (some ⟨g, 0, none⟩) pc to tc E qs tl ∧ Out T w w' := by
  have htg := h.tpo g rfl
  have ho : Out T w w' := Out.of_grown hg (fun k e => by cases e; exact htg.1)
  obtain ⟨f, hf, hs⟩ := h.map
  refine ⟨⟨?_, ⟨f, hf.kept hg (fun e => htg.2.2 (by cases e; rfl)), fun k => (hs k).out ho⟩, by rw [hq]; exact hp, ?_, h.trb, h.tmb, h.ne, by rw [hq]; exact h.tpo, by rw [hq]; exact h.tto, h.low, Nat.le_trans h.high ho.size⟩, ho⟩
  · rw [hq]
    exact h.blk.grown hg (fun e => htg.2.1 e.symm)
  · refine World.ownsRow.kept h.told hg ?_
    cases hv : (Value.slice to tl.length tc).ownBlock with
    | none => exact .inl rfl
    | some b => exact .inr (fun e => by cases e; exact (h.tto _ hv).2.2.2 rfl)
/-- The field of the parts. -/
theorem RD.setParts {po' : Option Addr} {pc' : Nat} {qs : List Part} (h : RD w T base rb mb n po pc to tc E ps tl) (hp : PO w base (.slice po' qs.length pc') qs) (ht : ∀ b, (Value.slice po' qs.length pc').ownBlock = some b → T b ∧ b ≠ rb ∧ b ≠ mb ∧ (Value.slice to tl.length tc).ownBlock ≠ some b) :
    RD (w.setCell ⟨rb, 1, none⟩ (.slice po' qs.length pc')) T base rb mb n po' pc' to tc E qs tl ∧ Out T w (w.setCell ⟨rb, 1, none⟩ (.slice po' qs.length pc')) := by
  have hg := grownBy_set w rb 1 (.slice po' qs.length pc')
  have ho : Out T w (w.setCell ⟨rb, 1, none⟩ (.slice po' qs.length pc')) := Out.of_grown hg (fun k e => by cases e; exact h.trb)
  obtain ⟨f, hf, hs⟩ := h.map
  refine ⟨⟨?_, ⟨f, hf.kept hg (fun e => h.ne (by cases e; rfl)), fun k => (hs k).out ho⟩, ?_, ?_, h.trb, h.tmb, h.ne, fun b hb => ⟨(ht b hb).1, (ht b hb).2.1, (ht b hb).2.2.1⟩, fun b hb => ⟨(h.tto b hb).1, (h.tto b hb).2.1, (h.tto b hb).2.2.1, fun e => (ht b e).2.2.2 hb⟩, h.low, Nat.le_trans h.high ho.size⟩, ho⟩
  · have := h.blk.set 1 (.slice po' qs.length pc')
    exact this
  · refine World.ownsRow.kept hp hg ?_
    cases hv : (Value.slice po' qs.length pc').ownBlock with
    | none => exact .inl rfl
    | some b => exact .inr (fun e => by cases e; exact (ht _ hv).2.1 rfl)
  · refine World.ownsRow.kept h.told hg ?_
    cases hv : (Value.slice to tl.length tc).ownBlock with
    | none => exact .inl rfl
    | some b => exact .inr (fun e => by cases e; exact (h.tto _ hv).2.1 rfl)
end

/-- What comes of a directive's part: it may not be there, or the reader is as q says. -/
def Did (w : World) (T : Nat → Prop) (base rb mb n : Nat) (to : Option Addr) (tc : Nat) (tl : List Tok) (q : Option (Env × List Part)) (e : Ending) (w' : World) : Prop :=
  Out T w w' ∧ match q with
  | none => e = .returned (.bool false)
  | some (E, ps) => e = .returned (.bool true) ∧ ∃ T' po pc, Wid T T' w ∧ RD w' T' base rb mb (n + 1) po pc to tc E ps tl

theorem RD.more {w : World} {T : Nat → Prop} {base rb mb n m : Nat} {po : Option Addr} {pc : Nat} {to : Option Addr} {tc : Nat} {E : Env} {ps : List Part} {tl : List Tok} (h : RD w T base rb mb n po pc to tc E ps tl) (hm : n ≤ m) : RD w T base rb mb m po pc to tc E ps tl :=
  ⟨h.blk, let ⟨g, h1, h2⟩ := h.map; ⟨g, h1.mono hm, h2⟩, h.parts, h.told, h.trb, h.tmb, h.ne, h.tpo, h.tto, h.low, h.high⟩

set_option maxHeartbeats 1000000 in
theorem turn_any {T : Nat → Prop} {base rb mb n : Nat} {po : Option Addr} {pc : Nat} {to : Option Addr} {tc : Nat} {E : Env} {ps : List Part} {tl : List Tok} (w : World) (h : RD w T base rb mb n po pc to tc E ps tl) (hps : ps.length ≤ 100000) :
    Calls Tryd.prog 48 #[.pointer (some ⟨rb, 0, none⟩)] w (Did w T base rb mb n to tc tl ((turnP ps).map fun q => (E, q))) := by
  have c1 := h.blk.cell (i := 1) (v := .slice po ps.length pc) rfl
  by_cases h0 : ps = []
  · subst h0
    have hq : ((turnP []).map fun q => (E, q)) = none := rfl
    rw [hq]
    clear h hq
    go_enter Tryd.func48, Tryd.ntmps48
    go_wp2
    go_ret
    exact ⟨Out.refl _ _, rfl⟩
  · obtain ⟨A, p, rfl⟩ := lastP ps h0
    obtain ⟨g, rfl, hn, hpc, q0, q1, q2, fz⟩ := h.parts.last
    have hl : (A ++ [p]).length = A.length + 1 := by simp
    rw [hl] at c1 hps
    have b0 : ((A.length : Int) + 1 == 0) = false := beq_eq_false_iff_ne.2 (by omega)
    have w1 : IntKind.i64.wrap ((A.length : Int) + 1 - 1) = A.length := by rw [Int.add_sub_cancel]; exact wrapIdX (by omega) (by omega)
    have w2 : (A.length : Int) + 1 - 1 = A.length := by omega
    have H := hide h
    clear h h0 hn
    by_cases ht : p.turned = true
    · have hq : ((turnP (A ++ [p])).map fun q => (E, q)) = none := by unfold turnP; simp [ht]
      rw [hq]
      rw [ht] at q2
      clear hq ht
      go_enter Tryd.func48, Tryd.ntmps48
      go_wp2
      go_quiet (fail)
      go_wp2
      go_ret
      exact ⟨Out.of_ext ((Ext.refl w).drewN _), rfl⟩
    · have ht' : p.turned = false := by simpa using ht
      have hq : ((turnP (A ++ [p])).map fun q => (E, q)) = some (E, A ++ [⟨p.other, p.other, true⟩]) := by unfold turnP; simp [ht']
      rw [hq]
      rw [ht'] at q2
      clear hq ht ht'
      go_enter Tryd.func48, Tryd.ntmps48
      go_wp2
      go_quiet (fail)
      go_wp2
      go_ret
      have key : ∀ k, RD (((w.drewN k).setCell ⟨g, A.length * 3, none⟩ (.bool p.other)).setCell ⟨g, A.length * 3 + 2, none⟩ (.bool true)) T base rb mb n (some ⟨g, 0, none⟩) pc to tc E (A ++ [⟨p.other, p.other, true⟩]) tl ∧ Out T (w.drewN k) (((w.drewN k).setCell ⟨g, A.length * 3, none⟩ (.bool p.other)).setCell ⟨g, A.length * 3 + 2, none⟩ (.bool true)) := fun k =>
        ((unhide H).ext ((Ext.refl w).drewN k)).inParts ((grownBy_set _ g _ _).trans (grownBy_set _ g _ _)) (by simp) (PO.turn ((unhide H).ext ((Ext.refl w).drewN k)).parts)
      exact ⟨(Out.of_ext ((Ext.refl w).drewN _)).trans (key _).2 (fun b hb => .inl hb), rfl, T, _, _, Wid.refl _ _, (key _).1.more (Nat.le_succ _)⟩

set_option maxHeartbeats 1000000 in
theorem end_any {T : Nat → Prop} {base rb mb n : Nat} {po : Option Addr} {pc : Nat} {to : Option Addr} {tc : Nat} {E : Env} {ps : List Part} {tl : List Tok} (w : World) (h : RD w T base rb mb n po pc to tc E ps tl) (hps : ps.length ≤ 100000) :
    Calls Tryd.prog 49 #[.pointer (some ⟨rb, 0, none⟩)] w (Did w T base rb mb n to tc tl ((endP ps).map fun q => (E, q))) := by
  have c1 := h.blk.cell (i := 1) (v := .slice po ps.length pc) rfl
  have fy := fun i => h.blk.free i
  by_cases h0 : ps = []
  · subst h0
    have hq : ((endP []).map fun q => (E, q)) = none := rfl
    rw [hq]
    clear h hq
    go_enter Tryd.func49, Tryd.ntmps49
    go_wp2
    go_ret
    exact ⟨Out.refl _ _, rfl⟩
  · obtain ⟨A, p, rfl⟩ := lastP ps h0
    obtain ⟨g, rfl, hn, hpc, q0, q1, q2, fz⟩ := h.parts.last
    have hl : (A ++ [p]).length = A.length + 1 := by simp
    rw [hl] at c1 hps
    have hq : ((endP (A ++ [p])).map fun q => (E, q)) = some (E, A) := by unfold endP; simp
    rw [hq]
    have b0 : ((A.length : Int) + 1 == 0) = false := beq_eq_false_iff_ne.2 (by omega)
    have w1 : IntKind.i64.wrap ((A.length : Int) + 1 - 1) = A.length := by rw [Int.add_sub_cancel]; exact wrapIdX (by omega) (by omega)
    have w2 : (A.length : Int) + 1 - 1 = A.length := by omega
    have H := hide h
    clear h h0 hn q0 q1 q2 fz hq
    go_enter Tryd.func49, Tryd.ntmps49
    go_wp2
    go_region
    go_wp2
    go_ret
    have key : ∀ wx, Ext w wx → RD (wx.setCell ⟨rb, 1, none⟩ (.slice (some ⟨g, 0, none⟩) A.length pc)) T base rb mb n (some ⟨g, 0, none⟩) pc to tc E A tl ∧ Out T wx (wx.setCell ⟨rb, 1, none⟩ (.slice (some ⟨g, 0, none⟩) A.length pc)) := fun wx hx =>
      ((unhide H).ext hx).setParts ((unhide H).ext hx).parts.front (fun b hb => ⟨((unhide H).tpo b hb).1, ((unhide H).tpo b hb).2.1, ((unhide H).tpo b hb).2.2, fun e => ((unhide H).tto b e).2.2.2 hb⟩)
    exact ⟨(Out.of_ext (Ext.refl w).drew).trans (key w.drew (Ext.refl w).drew).2 (fun b hb => .inl hb), rfl, T, _, _, Wid.refl _ _, (key w.drew (Ext.refl w).drew).1.more (Nat.le_succ _)⟩
end Go.Proofs.YtdcamcpffiilbaaDoor
