/- Several texts in one. -/
import Derived.Test.YtgcliklpbahfaaaDoorZB
import Derived.Laws.OwnMore
import Derived.Deep.QuietTactic
import Derived.BigQuiet
import Derived.Deep.RegionLaw
/-
  A reader in memory; counts, turn, end.
-/
namespace Go.Proofs.YtgcliklpbahfaaaDoor
open Go.RowKit
set_option linter.unusedVariables false
set_option linter.unusedSimpArgs false

def pcell (p : Part) : List Value := [.bool p.counts, .bool p.other, .bool p.turned]
def pcells (ps : List Part) : List Value := ps.flatMap pcell
theorem pcells_len (ps : List Part) : (pcells ps).length = ps.length * 3 := by
  induction ps with
  | nil => rfl
  | cons x r ih =>
    unfold pcells at ih ⊢
    rw [List.flatMap_cons, List.length_append, ih]
    simp [pcell]
    omega
theorem pcells_app (A B : List Part) : pcells (A ++ B) = pcells A ++ pcells B := by
  unfold pcells
  rw [List.flatMap_append]
/-- Open parts, the call's own. -/
def PO (w : World) (base : Nat) (v : Value) (ps : List Part) : Prop := w.ownsRow base 86 3 v ps.length (pcells ps)
theorem PO.nil (w : World) (base : Nat) : PO w base (.slice none 0 0) [] := World.ownsRow_nil _ _ _ _
section
variable {w w' : World} {base : Nat} {po : Option Addr} {n pc : Nat} {ps : List Part} {p : Part}
theorem PO.last (h : PO w base (.slice po n pc) (ps ++ [p])) : ∃ g, po = some ⟨g, 0, none⟩ ∧ n = ps.length + 1 ∧ ps.length + 1 ≤ pc ∧ w.cell? ⟨g, ps.length * 3, none⟩ = some (.bool p.counts) ∧ w.cell? ⟨g, ps.length * 3 + 1, none⟩ = some (.bool p.other) ∧ w.cell? ⟨g, ps.length * 3 + 2, none⟩ = some (.bool p.turned) ∧ ∀ j, w.frozen? ⟨g, j, none⟩ = false := by
  have hl : (ps ++ [p]).length = ps.length + 1 := by simp
  have h0 := h
  unfold PO at h
  rw [hl] at h
  rcases h.2 with ⟨_, e⟩ | ⟨g, cap, cur, e, hb, hg, hnc, hcm, hcs, ht⟩
  · omega
  · cases e
    refine ⟨g, rfl, rfl, hnc, ?_, ?_, ?_, fun j => h.frozenAt j⟩
    · rw [h.cellAt (ps.length * 3) (by omega), pcells_app, List.getElem?_append_right (by rw [pcells_len]; omega), pcells_len]
      simp [pcells, pcell]
    · rw [h.cellAt (ps.length * 3 + 1) (by omega), pcells_app, List.getElem?_append_right (by rw [pcells_len]; omega), pcells_len, Nat.add_sub_cancel_left]
      simp [pcells, pcell]
    · rw [h.cellAt (ps.length * 3 + 2) (by omega), pcells_app, List.getElem?_append_right (by rw [pcells_len]; omega), pcells_len, Nat.add_sub_cancel_left]
      simp [pcells, pcell]
theorem PO.front (h : PO w base (.slice po n pc) (ps ++ [p])) : PO w base (.slice po ps.length pc) ps := by
  have hl : (ps ++ [p]).length = ps.length + 1 := by simp
  unfold PO at h ⊢
  rw [hl] at h
  rcases h.2 with ⟨_, e⟩ | ⟨g, cap, cur, e, hb, hg, hnc, hcm, hcs, ht⟩
  · omega
  · cases e
    refine ⟨pcells_len ps, .inr ⟨g, pc, cur, rfl, hb, hg, by omega, hcm, hcs, ?_⟩⟩
    have := congrArg (List.take (ps.length * 3)) ht
    rw [List.take_take, pcells_app, List.take_left' (pcells_len ps)] at this
    rw [← this]
    congr 1
    omega
/-- The other half of the last part. -/
theorem PO.turn {g : Nat} (h : PO w base (.slice (some ⟨g, 0, none⟩) n pc) (ps ++ [p])) : PO ((w.setCell ⟨g, ps.length * 3, none⟩ (.bool p.other)).setCell ⟨g, ps.length * 3 + 2, none⟩ (.bool true)) base (.slice (some ⟨g, 0, none⟩) n pc) (ps ++ [⟨p.other, p.other, true⟩]) := by
  have hl : (ps ++ [p]).length = ps.length + 1 := by simp
  have hl2 : (ps ++ [(⟨p.other, p.other, true⟩ : Part)]).length = ps.length + 1 := by simp
  unfold PO at h ⊢
  rw [hl] at h
  rw [hl2]
  have hn : n = ps.length + 1 := by
    rcases h.2 with ⟨_, e⟩ | ⟨g, cap, cur, e, _⟩
    · omega
    · cases e; rfl
  subst hn
  have h1 := ((h.stored (ps.length * 3) (.bool p.other)).1.stored (ps.length * 3 + 2) (.bool true)).1
  have e : ((pcells (ps ++ [p])).set (ps.length * 3) (.bool p.other)).set (ps.length * 3 + 2) (.bool true) = pcells (ps ++ [(⟨p.other, p.other, true⟩ : Part)]) := by
    rw [pcells_app, pcells_app, List.set_append_right _ _ (by rw [pcells_len]; omega), List.set_append_right _ _ (by rw [pcells_len]; omega), pcells_len, Nat.sub_self, Nat.add_sub_cancel_left]
    rfl
  rw [e] at h1
  exact h1
end

/-- What a word stands for, in memory. -/
def Stnd (T : Nat → Prop) (w : World) (v : Option Value) (L : Option (List Tok)) : Prop :=
  match v, L with
  | none, none => True
  | some v, some L => TF T w v L
  | _, _ => False
/-- A reader in memory. -/
structure RD (w : World) (T : Nat → Prop) (base rb mb n : Nat) (po : Option Addr) (pc : Nat) (to : Option Addr) (tc : Nat) (E : Env) (ps : List Part) (tl : List Tok) : Prop where
  blk : Blk w rb #[.map (some mb), .slice po ps.length pc, .slice to tl.length tc] 40
  map : ∃ g, FM w mb n g ∧ ∀ k, Stnd T w (g k) (E k)
  parts : PO w base (.slice po ps.length pc) ps
  told : TO w base (.slice to tl.length tc) tl
  trb : T rb
  tmb : T mb
  ne : rb ≠ mb
  tpo : ∀ b, (Value.slice po ps.length pc).ownBlock = some b → T b ∧ b ≠ rb ∧ b ≠ mb
  tto : ∀ b, (Value.slice to tl.length tc).ownBlock = some b → T b ∧ b ≠ rb ∧ b ≠ mb ∧ (Value.slice po ps.length pc).ownBlock ≠ some b
  low : ∀ b, T b → base ≤ b
  high : base ≤ w.heap.size
section
variable {w w' : World} {T T' : Nat → Prop} {base rb mb n : Nat} {po : Option Addr} {pc : Nat} {to : Option Addr} {tc : Nat} {E : Env} {ps : List Part} {tl : List Tok}
theorem Stnd.out {v : Option Value} {L : Option (List Tok)} (h : Stnd T w v L) (ho : Out T w w') : Stnd T w' v L := by
  unfold Stnd at *
  split at h
  · trivial
  · exact h.out ho
  · exact h
theorem Stnd.wid {v : Option Value} {L : Option (List Tok)} (h : Stnd T w v L) (hw : Wid T T' w) : Stnd T' w v L := by
  unfold Stnd at *
  split at h
  · trivial
  · exact h.wid hw
  · exact h
theorem Stnd.step {v : Option Value} {L : Option (List Tok)} (h : Stnd T w v L) (ho : Out T w w') (hw : Wid T T' w) : Stnd T' w' v L := by
  unfold Stnd at *
  split at h
  · trivial
  · exact h.step ho hw
  · exact h
theorem ownsKept {w w' : World} {base : Nat} {e : TypeId} {size n : Nat} {v : Value} {xs : List Value} {T : Nat → Prop} (h : w.ownsRow base e size v n xs) (ho : Out T w w') (hv : ∀ b, v.ownBlock = some b → ¬ T b) : w'.ownsRow base e size v n xs := by
  refine ⟨h.1, ?_⟩
  rcases h.2 with hn | ⟨g, cap, cur, e, hb, hg, r⟩
  · exact .inl hn
  · refine .inr ⟨g, cap, cur, e, hb, ?_, r⟩
    have hl : g < w.heap.size := (Array.getElem?_eq_some_iff.1 hg).1
    exact (ho.block g hl (hv g (by rw [e]; rfl))).trans hg
/-- What turns beside a reader leaves it. -/
theorem RD.beside {U : Nat → Prop} (h : RD w T base rb mb n po pc to tc E ps tl) (ho : Out U w w') (hU : ∀ b, U b → ¬ T b) (hE : ∀ k L, E k = some L → ∀ v, TF T w v L → TF T w' v L) : RD w' T base rb mb n po pc to tc E ps tl := by
  obtain ⟨g, hg, hs⟩ := h.map
  refine ⟨h.blk.out ho (fun e => hU _ e h.trb), ⟨g, hg.out ho (fun e => hU _ e h.tmb), fun k => ?_⟩, ownsKept h.parts ho (fun b hb e => hU b e (h.tpo b hb).1), ownsKept h.told ho (fun b hb e => hU b e (h.tto b hb).1), h.trb, h.tmb, h.ne, h.tpo, h.tto, h.low, Nat.le_trans h.high ho.size⟩
  have := hs k
  unfold Stnd at this ⊢
  split at this
  · trivial
  · rename_i v L e1 e2
    exact hE k L e2 v this
  · exact this
theorem RD.ext (h : RD w T base rb mb n po pc to tc E ps tl) (hx : Ext w w') : RD w' T base rb mb n po pc to tc E ps tl :=
  h.beside (U := fun _ => False) (Out.of_ext hx) (fun _ e => e.elim) (fun _ _ _ _ hv => hv.ext hx)
end

theorem lastP (ps : List Part) (h : ps ≠ []) : ∃ A p, ps = A ++ [p] := ⟨ps.dropLast, ps.getLast h, (List.dropLast_concat_getLast h).symm⟩

set_option maxHeartbeats 1000000 in
theorem counts_any {T : Nat → Prop} {base rb mb n : Nat} {po : Option Addr} {pc : Nat} {to : Option Addr} {tc : Nat} {E : Env} {ps : List Part} {tl : List Tok} (w : World) (h : RD w T base rb mb n po pc to tc E ps tl) (hps : ps.length ≤ 100000) :
    Calls Tryd.prog 30 #[.pointer (some ⟨rb, 0, none⟩)] w fun e w' => e = .returned (.bool (countsP ps)) ∧ ∃ k, w' = w.drewN k := by
  have c1 := h.blk.cell (i := 1) (v := .slice po ps.length pc) rfl
  by_cases h0 : ps = []
  · subst h0
    clear h
    show Calls Tryd.prog 30 #[.pointer (some ⟨rb, 0, none⟩)] w fun e w' => e = .returned (.bool true) ∧ ∃ k, w' = w.drewN k
    go_enter Tryd.func30, Tryd.ntmps30
    go_wp2
    go_quiet (fail)
    go_wp2
    go_ret
    exact ⟨rfl, _, rfl⟩
  · obtain ⟨A, p, rfl⟩ := lastP ps h0
    obtain ⟨g, rfl, hn, hpc, q0, q1, q2, _⟩ := h.parts.last
    have hcp : countsP (A ++ [p]) = p.counts := by unfold countsP; simp
    rw [hcp]
    have hl : (A ++ [p]).length = A.length + 1 := by simp
    rw [hl] at c1 hps
    clear h h0 hcp q1 q2 hn
    have b0 : ((A.length : Int) + 1 == 0) = false := beq_eq_false_iff_ne.2 (by omega)
    have w1 : IntKind.i64.wrap ((A.length : Int) + 1 - 1) = A.length := by rw [Int.add_sub_cancel]; exact wrapId (by omega) (by omega)
    have w2 : (A.length : Int) + 1 - 1 = A.length := by omega
    go_enter Tryd.func30, Tryd.ntmps30
    go_wp2
    go_quiet (fail)
    go_wp2
    go_ret
    exact ⟨rfl, _, rfl⟩
end Go.Proofs.YtgcliklpbahfaaaDoor

/-
  turn, end, open.
-/
namespace Go.Proofs.YtgcliklpbahfaaaDoor
open Go.RowKit
set_option linter.unusedVariables false
set_option linter.unusedSimpArgs false

section
variable {w w' : World} {T T' : Nat → Prop} {base rb mb n : Nat} {po : Option Addr} {pc : Nat} {to : Option Addr} {tc : Nat} {E : Env} {ps : List Part} {tl : List Tok}
/-- The parts turn within their block. -/
theorem RD.inParts {g : Nat} {qs : List Part} (h : RD w T base rb mb n (some ⟨g, 0, none⟩) pc to tc E ps tl) (hg : w.grownBy w' (some g)) (hq : qs.length = ps.length) (hp : PO w' base (.slice (some ⟨g, 0, none⟩) ps.length pc) qs) : RD w' T base rb mb n (some ⟨g, 0, none⟩) pc to tc E qs tl ∧ Out T w w' := by
  have htg := h.tpo g rfl
  have ho : Out T w w' := Out.of_grown hg (fun k e => by cases e; exact htg.1)
  obtain ⟨f, hf, hs⟩ := h.map
  refine ⟨⟨?_, ⟨f, hf.kept hg (fun e => htg.2.2 (by cases e; rfl)), fun k => (hs k).out ho⟩, by rw [hq]; exact hp, ?_, h.trb, h.tmb, h.ne, by rw [hq]; exact h.tpo, by rw [hq]; exact h.tto, h.low, Nat.le_trans h.high ho.size⟩, ho⟩
  · rw [hq]
    exact h.blk.grown hg (fun e => htg.2.1 e.symm)
  · refine World.ownsRow.kept h.told hg ?_
    cases hv : (Value.slice to tl.length tc).ownBlock with
    | none => exact .inl rfl
    | some b => exact .inr (fun e => by cases e; exact (h.tto _ hv).2.2.2 rfl)
/-- The field of the parts. -/
theorem RD.setParts {po' : Option Addr} {pc' : Nat} {qs : List Part} (h : RD w T base rb mb n po pc to tc E ps tl) (hp : PO w base (.slice po' qs.length pc') qs) (ht : ∀ b, (Value.slice po' qs.length pc').ownBlock = some b → T b ∧ b ≠ rb ∧ b ≠ mb ∧ (Value.slice to tl.length tc).ownBlock ≠ some b) :
    RD (w.setCell ⟨rb, 1, none⟩ (.slice po' qs.length pc')) T base rb mb n po' pc' to tc E qs tl ∧ Out T w (w.setCell ⟨rb, 1, none⟩ (.slice po' qs.length pc')) := by
  have hg := grownBy_set w rb 1 (.slice po' qs.length pc')
  have ho : Out T w (w.setCell ⟨rb, 1, none⟩ (.slice po' qs.length pc')) := Out.of_grown hg (fun k e => by cases e; exact h.trb)
  obtain ⟨f, hf, hs⟩ := h.map
  refine ⟨⟨?_, ⟨f, hf.kept hg (fun e => h.ne (by cases e; rfl)), fun k => (hs k).out ho⟩, ?_, ?_, h.trb, h.tmb, h.ne, fun b hb => ⟨(ht b hb).1, (ht b hb).2.1, (ht b hb).2.2.1⟩, fun b hb => ⟨(h.tto b hb).1, (h.tto b hb).2.1, (h.tto b hb).2.2.1, fun e => (ht b e).2.2.2 hb⟩, h.low, Nat.le_trans h.high ho.size⟩, ho⟩
  · have := h.blk.set 1 (.slice po' qs.length pc')
    exact this
  · refine World.ownsRow.kept hp hg ?_
    cases hv : (Value.slice po' qs.length pc').ownBlock with
    | none => exact .inl rfl
    | some b => exact .inr (fun e => by cases e; exact (ht _ hv).2.1 rfl)
  · refine World.ownsRow.kept h.told hg ?_
    cases hv : (Value.slice to tl.length tc).ownBlock with
    | none => exact .inl rfl
    | some b => exact .inr (fun e => by cases e; exact (h.tto _ hv).2.1 rfl)
end

/-- What comes of a directive's part: it may not be there, or the reader is as q says. -/
def Did (w : World) (T : Nat → Prop) (base rb mb n : Nat) (to : Option Addr) (tc : Nat) (tl : List Tok) (q : Option (Env × List Part)) (e : Ending) (w' : World) : Prop :=
  Out T w w' ∧ match q with
  | none => e = .returned (.bool false)
  | some (E, ps) => e = .returned (.bool true) ∧ ∃ T' po pc, Wid T T' w ∧ RD w' T' base rb mb (n + 1) po pc to tc E ps tl

theorem RD.more {w : World} {T : Nat → Prop} {base rb mb n m : Nat} {po : Option Addr} {pc : Nat} {to : Option Addr} {tc : Nat} {E : Env} {ps : List Part} {tl : List Tok} (h : RD w T base rb mb n po pc to tc E ps tl) (hm : n ≤ m) : RD w T base rb mb m po pc to tc E ps tl :=
  ⟨h.blk, let ⟨g, h1, h2⟩ := h.map; ⟨g, h1.mono hm, h2⟩, h.parts, h.told, h.trb, h.tmb, h.ne, h.tpo, h.tto, h.low, h.high⟩

set_option maxHeartbeats 1000000 in
theorem turn_any {T : Nat → Prop} {base rb mb n : Nat} {po : Option Addr} {pc : Nat} {to : Option Addr} {tc : Nat} {E : Env} {ps : List Part} {tl : List Tok} (w : World) (h : RD w T base rb mb n po pc to tc E ps tl) (hps : ps.length ≤ 100000) :
    Calls Tryd.prog 61 #[.pointer (some ⟨rb, 0, none⟩)] w (Did w T base rb mb n to tc tl ((turnP ps).map fun q => (E, q))) := by
  have c1 := h.blk.cell (i := 1) (v := .slice po ps.length pc) rfl
  by_cases h0 : ps = []
  · subst h0
    have hq : ((turnP []).map fun q => (E, q)) = none := rfl
    rw [hq]
    clear h hq
    go_enter Tryd.func61, Tryd.ntmps61
    go_wp2
    go_ret
    exact ⟨Out.refl _ _, rfl⟩
  · obtain ⟨A, p, rfl⟩ := lastP ps h0
    obtain ⟨g, rfl, hn, hpc, q0, q1, q2, fz⟩ := h.parts.last
    have hl : (A ++ [p]).length = A.length + 1 := by simp
    rw [hl] at c1 hps
    have b0 : ((A.length : Int) + 1 == 0) = false := beq_eq_false_iff_ne.2 (by omega)
    have w1 : IntKind.i64.wrap ((A.length : Int) + 1 - 1) = A.length := by rw [Int.add_sub_cancel]; exact wrapId (by omega) (by omega)
    have w2 : (A.length : Int) + 1 - 1 = A.length := by omega
    have H := hide h
    clear h h0 hn
    by_cases ht : p.turned = true
    · have hq : ((turnP (A ++ [p])).map fun q => (E, q)) = none := by unfold turnP; simp [ht]
      rw [hq]
      rw [ht] at q2
      clear hq ht
      go_enter Tryd.func61, Tryd.ntmps61
      go_wp2
      go_quiet (fail)
      go_wp2
      go_ret
      exact ⟨Out.of_ext ((Ext.refl w).drewN _), rfl⟩
    · have ht' : p.turned = false := by simpa using ht
      have hq : ((turnP (A ++ [p])).map fun q => (E, q)) = some (E, A ++ [⟨p.other, p.other, true⟩]) := by unfold turnP; simp [ht']
      rw [hq]
      rw [ht'] at q2
      clear hq ht ht'
      go_enter Tryd.func61, Tryd.ntmps61
      go_wp2
      go_quiet (fail)
      go_wp2
      go_ret
      have key : ∀ k, RD (((w.drewN k).setCell ⟨g, A.length * 3, none⟩ (.bool p.other)).setCell ⟨g, A.length * 3 + 2, none⟩ (.bool true)) T base rb mb n (some ⟨g, 0, none⟩) pc to tc E (A ++ [⟨p.other, p.other, true⟩]) tl ∧ Out T (w.drewN k) (((w.drewN k).setCell ⟨g, A.length * 3, none⟩ (.bool p.other)).setCell ⟨g, A.length * 3 + 2, none⟩ (.bool true)) := fun k =>
        ((unhide H).ext ((Ext.refl w).drewN k)).inParts ((grownBy_set _ g _ _).trans (grownBy_set _ g _ _)) (by simp) (PO.turn ((unhide H).ext ((Ext.refl w).drewN k)).parts)
      exact ⟨(Out.of_ext ((Ext.refl w).drewN _)).trans (key _).2 (fun b hb => .inl hb), rfl, T, _, _, Wid.refl _ _, (key _).1.more (Nat.le_succ _)⟩

set_option maxHeartbeats 1000000 in
theorem end_any {T : Nat → Prop} {base rb mb n : Nat} {po : Option Addr} {pc : Nat} {to : Option Addr} {tc : Nat} {E : Env} {ps : List Part} {tl : List Tok} (w : World) (h : RD w T base rb mb n po pc to tc E ps tl) (hps : ps.length ≤ 100000) :
    Calls Tryd.prog 62 #[.pointer (some ⟨rb, 0, none⟩)] w (Did w T base rb mb n to tc tl ((endP ps).map fun q => (E, q))) := by
  have c1 := h.blk.cell (i := 1) (v := .slice po ps.length pc) rfl
  have fy := fun i => h.blk.free i
  by_cases h0 : ps = []
  · subst h0
    have hq : ((endP []).map fun q => (E, q)) = none := rfl
    rw [hq]
    clear h hq
    go_enter Tryd.func62, Tryd.ntmps62
    go_wp2
    go_ret
    exact ⟨Out.refl _ _, rfl⟩
  · obtain ⟨A, p, rfl⟩ := lastP ps h0
    obtain ⟨g, rfl, hn, hpc, q0, q1, q2, fz⟩ := h.parts.last
    have hl : (A ++ [p]).length = A.length + 1 := by simp
    rw [hl] at c1 hps
    have hq : ((endP (A ++ [p])).map fun q => (E, q)) = some (E, A) := by unfold endP; simp
    rw [hq]
    have b0 : ((A.length : Int) + 1 == 0) = false := beq_eq_false_iff_ne.2 (by omega)
    have w1 : IntKind.i64.wrap ((A.length : Int) + 1 - 1) = A.length := by rw [Int.add_sub_cancel]; exact wrapId (by omega) (by omega)
    have w2 : (A.length : Int) + 1 - 1 = A.length := by omega
    have H := hide h
    clear h h0 hn q0 q1 q2 fz hq
    go_enter Tryd.func62, Tryd.ntmps62
    go_wp2
    go_region
    go_wp2
    go_ret
    have key : ∀ wx, Ext w wx → RD (wx.setCell ⟨rb, 1, none⟩ (.slice (some ⟨g, 0, none⟩) A.length pc)) T base rb mb n (some ⟨g, 0, none⟩) pc to tc E A tl ∧ Out T wx (wx.setCell ⟨rb, 1, none⟩ (.slice (some ⟨g, 0, none⟩) A.length pc)) := fun wx hx =>
      ((unhide H).ext hx).setParts ((unhide H).ext hx).parts.front (fun b hb => ⟨((unhide H).tpo b hb).1, ((unhide H).tpo b hb).2.1, ((unhide H).tpo b hb).2.2, fun e => ((unhide H).tto b e).2.2.2 hb⟩)
    exact ⟨(Out.of_ext (Ext.refl w).drew).trans (key w.drew (Ext.refl w).drew).2 (fun b hb => .inl hb), rfl, T, _, _, Wid.refl _ _, (key w.drew (Ext.refl w).drew).1.more (Nat.le_succ _)⟩
end Go.Proofs.YtgcliklpbahfaaaDoor

/-
  open.
-/
namespace Go.Proofs.YtgcliklpbahfaaaDoor
open Go.RowKit
set_option linter.unusedVariables false
set_option linter.unusedSimpArgs false

theorem infoPt : (Tryd.prog.info? 86).map (fun i => (i.zero, i.size, i.bytes)) = some (some (.agg #[.bool false, .bool false, .bool false]), 3, 3) := by kernel_rfl
/-- 'append(parts, x)', the block of x laid last. -/
theorem wpList_append_part {w : World} {ops : Array Oper} {rest : List Oper} {o : Oper} {a : Act} {Q : Exit → Act → World → Prop} (hgd : o.guard = none) (s x : Operand)
    (ho : o.op = .call { callee := .builtin .append, args := #[s, x], argTypes := #[38, 38] }) (base : Nat) (v : Value) (ps : List Part) (p : Part) (hs : a.eval s = v)
    (hown : PO w base v ps) (g c : Nat) (hx : a.eval x = .slice (some ⟨g, 0, none⟩) 1 c) (t : TypeId) (hB : Blk w g (pcell p).toArray t)
    (hL : ps.length ≤ 2000000000000) (hbase : base ≤ w.heap.size)
    (h : ∀ ao cap w', PO w' base (.slice ao (ps.length + 1) cap) (ps ++ [p]) → w.grownBy w' v.ownBlock → (∀ b, (Value.slice ao (ps.length + 1) cap).ownBlock = some b → v.ownBlock = some b ∨ w.heap.size ≤ b) → wpList Tryd.prog ops Q rest (a.put o.dst (.slice ao (ps.length + 1) cap)) w') :
    wpList Tryd.prog ops Q (o :: rest) a w := by
  obtain ⟨i0, hi, hz0, hz1, hz2⟩ := info_parts3 infoPt
  refine wpList_append_own_at w hgd s x 38 ho base 86 i0 _ 3 3 Tryd.underlying38 hi hz0 hz1 hz2 rfl (by decide) v ps.length (pcells ps) hs hown ⟨g, 0, none⟩ 1 c (pcell p) hx rfl ?_ ?_ (by unfold maxLen; omega) (by omega) hbase ?_
  · intro j u hu
    rw [Addr.add_lit, Nat.zero_add]
    exact hB.cell (by simpa using hu)
  · intro u hu
    simp [pcell] at hu
    rcases hu with rfl | rfl | rfl <;> rfl
  · intro v' w' h1 h2 _ h4
    have e1 : pcells ps ++ pcell p = pcells (ps ++ [p]) := by rw [pcells_app]; simp [pcells]
    have hl : (ps ++ [p]).length = ps.length + 1 := by simp
    rw [e1] at h1
    have hsh : ∃ ao cap, v' = .slice ao (ps.length + 1) cap := by
      rcases h1.2 with ⟨_, h0⟩ | ⟨g2, c2, cur, e, _⟩
      · omega
      · exact ⟨_, _, e⟩
    obtain ⟨ao, cap, rfl⟩ := hsh
    refine h ao cap w' (by unfold PO; rw [hl]; exact h1) h2 (fun b hb => ?_)
    rcases h4 with h4 | h4
    · exact .inl (h4 ▸ hb)
    · rw [h4] at hb
      cases hb
      exact .inr (Nat.le_refl _)

section
variable {w w' : World} {T T' : Nat → Prop} {base rb mb n : Nat} {po : Option Addr} {pc : Nat} {to : Option Addr} {tc : Nat} {E : Env} {ps : List Part} {tl : List Tok}
theorem RD.openParts {po' : Option Addr} {pc' : Nat} {qs : List Part} (h : RD w T base rb mb n po pc to tc E ps tl) (hg : w.grownBy w' (Value.slice po ps.length pc).ownBlock) (hp : PO w' base (.slice po' qs.length pc') qs)
    (hloc : ∀ b, (Value.slice po' qs.length pc').ownBlock = some b → (Value.slice po ps.length pc).ownBlock = some b ∨ w.heap.size ≤ b) :
    ∃ T', Wid T T' w ∧ RD (w'.setCell ⟨rb, 1, none⟩ (.slice po' qs.length pc')) T' base rb mb n po' pc' to tc E qs tl ∧ Out T w (w'.setCell ⟨rb, 1, none⟩ (.slice po' qs.length pc')) := by
  obtain ⟨f, hf, hs⟩ := h.map
  have hrbl := h.blk.lt
  have hmbl := hf.lt
  have ho6 : Out T w w' := Out.of_grown hg (fun k e => (h.tpo k e).1)
  have hg7 := grownBy_set w' rb 1 (.slice po' qs.length pc')
  have ho : Out T w (w'.setCell ⟨rb, 1, none⟩ (.slice po' qs.length pc')) := ho6.trans (Out.of_grown hg7 (T := T) (fun k e => by cases e; exact h.trb)) (fun k e => .inl e)
  have hnew : ∀ b, (Value.slice po' qs.length pc').ownBlock = some b → b ≠ rb ∧ b ≠ mb := fun b hb => by
    rcases hloc b hb with h1 | h1
    · exact (h.tpo b h1).2
    · exact ⟨by omega, by omega⟩
  refine ⟨fun b => T b ∨ (Value.slice po' qs.length pc').ownBlock = some b, fun b => ⟨fun _ => .inl, fun e => ?_⟩, ⟨?_, ⟨f, (hf.kept hg (fun e => (h.tpo mb e.symm).2.2 rfl)).kept hg7 (fun e => h.ne (by cases e; rfl)), fun k => (hs k).step ho (fun b => ⟨fun _ => .inl, fun e => ?_⟩)⟩, ?_, ?_, .inl h.trb, .inl h.tmb, h.ne, fun b hb => ⟨.inr hb, hnew b hb⟩, fun b hb => ⟨.inl (h.tto b hb).1, (h.tto b hb).2.1, (h.tto b hb).2.2.1, fun e => ?_⟩, fun b hb => ?_, Nat.le_trans h.high ho.size⟩, ho⟩
  · rcases e with e | e
    · exact .inl e
    · rcases hloc b e with h1 | h1
      · exact .inl (h.tpo b h1).1
      · exact .inr h1
  · exact (blkGrownO h.blk hg (fun e => (h.tpo rb e).2.1 rfl)).set 1 (.slice po' qs.length pc')
  · rcases e with e | e
    · exact .inl e
    · rcases hloc b e with h1 | h1
      · exact .inl (h.tpo b h1).1
      · exact .inr h1
  · refine World.ownsRow.kept hp hg7 ?_
    cases hv : (Value.slice po' qs.length pc').ownBlock with
    | none => exact .inl rfl
    | some b => exact .inr (fun e => by cases e; exact (hnew _ hv).1 rfl)
  · refine World.ownsRow.kept (World.ownsRow.kept h.told hg ?_) hg7 ?_
    · cases hv : (Value.slice to tl.length tc).ownBlock with
      | none => exact .inl rfl
      | some b => exact .inr (fun e => (h.tto _ hv).2.2.2 e.symm)
    · cases hv : (Value.slice to tl.length tc).ownBlock with
      | none => exact .inl rfl
      | some b => exact .inr (fun e => by cases e; exact (h.tto _ hv).2.1 rfl)
  · rcases hloc b e with h1 | h1
    · exact (h.tto b hb).2.2.2 h1
    · have := (World.ownsRow.lt h.told b hb).2
      omega
  · rcases hb with hb | hb
    · exact h.low b hb
    · exact (World.ownsRow.lt hp b hb).1
theorem RD.look (h : RD w T base rb mb n po pc to tc E ps tl) (k : Byts8) (hk : k.length ≤ maxLen) : ∃ ao m cap, (∀ wx, Ext w wx → (Instr.lookup 37 (.map (some mb)) (.string ⟨k.toArray⟩) true).run Tryd.prog wx = .ok (.tuple #[.slice ao m cap, .bool (E k).isSome]) wx) ∧ (∀ L, E k = some L → m = L.length ∧ TF T w (.slice ao m cap) L) := by
  obtain ⟨f, hf, hs⟩ := h.map
  have hr := fun wx hx => (hf.ext (w' := wx) hx).look (t := 37) (e := 23) (z := .slice none 0 0) Tryd.underlying37 (by kernel_rfl) k hk
  have hst := hs k
  unfold Stnd at hst
  split at hst
  · rename_i e1 e2
    rw [e1] at hr
    rw [e2]
    exact ⟨none, 0, 0, hr, fun L hL => by cases hL⟩
  · rename_i v L' e1 e2
    obtain ⟨ao, cap, e, _⟩ := hst.1
    subst e
    rw [e1] at hr
    rw [e2]
    exact ⟨ao, _, cap, hr, fun L hL => by cases hL; exact ⟨rfl, hst⟩⟩
  · exact hst.elim
end

theorem isWord_one {L : List Tok} (h : isWordL L = true) : ∃ t, L = [t] ∧ t.kind = 1 := by
  match L, h with
  | [t], h => exact ⟨t, rfl, by simpa [isWordL] using h⟩

set_option maxHeartbeats 4000000 in
set_option maxRecDepth 100000 in
theorem open_any {T : Nat → Prop} {base rb mb n : Nat} {po : Option Addr} {pc : Nat} {to : Option Addr} {tc : Nat} {E : Env} {ps : List Part} {tl : List Tok} (w : World) (h : RD w T base rb mb n po pc to tc E ps tl) (hps : ps.length ≤ 100000)
    (R : List Tok) (ro : Option Addr) (rc : Nat) (hR : TR w (.slice ro R.length rc) R) (hlen : ∀ t ∈ R, t.text.length ≤ 1000000) (wanted : Bool) :
    Calls Tryd.prog 60 #[.pointer (some ⟨rb, 0, none⟩), .slice ro R.length rc, .bool wanted] w (Did w T base rb mb n to tc tl ((openP E ps R wanted).map fun q => (E, q))) := by
  have HC := hide (counts_any w h hps)
  have H := hide h
  have HR := hide hR
  have c1 := h.blk.cell (i := 1) (v := .slice po ps.length pc) rfl
  have hb := h.high
  clear h hR
  have key : ∀ (p : Part) (wx : World), Ext w wx → ∀ ao cap w6, PO w6 base (.slice ao (ps.length + 1) cap) (ps ++ [p]) → wx.grownBy w6 (Value.slice po ps.length pc).ownBlock → (∀ b, (Value.slice ao (ps.length + 1) cap).ownBlock = some b → (Value.slice po ps.length pc).ownBlock = some b ∨ wx.heap.size ≤ b) →
      Blk w6 rb #[.map (some mb), .slice po ps.length pc, .slice to tl.length tc] 40 ∧ Did w T base rb mb n to tc tl (some (E, ps ++ [p])) (.returned (.bool true)) (w6.setCell ⟨rb, 1, none⟩ (.slice ao (ps.length + 1) cap)) := fun p wx hx ao cap w6 hp hg hloc => by
    have hl : (ps ++ [p]).length = ps.length + 1 := by simp
    obtain ⟨T', hw, hrd, hout⟩ := ((unhide H).ext hx).openParts (qs := ps ++ [p]) (w' := w6) hg (by rw [hl]; exact hp) (by rw [hl]; exact hloc)
    rw [hl] at hrd hout
    refine ⟨blkGrownO ((unhide H).ext hx).blk hg (fun e => ((unhide H).tpo rb e).2.1 rfl), (Out.of_ext hx).trans hout (fun b hb => .inl hb), rfl, T', ao, cap, hw.low hx.size, hrd.more (Nat.le_succ _)⟩
  have KEY := hide key
  clear key
  cases hcp : countsP ps with
  | false =>
    have hq : ((openP E ps R wanted).map fun q => (E, q)) = some (E, ps ++ [⟨false, false, false⟩]) := by unfold openP; simp [hcp]
    rw [hq]
    rw [hcp] at HC
    clear hq hcp
    go_enter Tryd.func60, Tryd.ntmps60
    go_wp2_with fail
    refine (unhide HC).mono ?_
    rintro e w1 ⟨rfl, k, rfl⟩
    obtain ⟨w1, hw1⟩ : ∃ w1, w1 = w.drewN k := ⟨_, rfl⟩
    have X1 : Hid (Ext w w1) := by rw [hw1]; exact (Ext.refl w).drewN k
    rw [← hw1]
    clear hw1
    have c1 := ((unhide H).ext (unhide X1)).blk.cell (i := 1) (v := .slice po ps.length pc) rfl
    go_wp2_with (at_builtin; refine wpList_append_part rfl (.tmp 16) (.tmp 18) rfl base _ ps ⟨false, false, false⟩ rfl (((unhide H).ext (unhide X1)).ext ((Ext.refl _).alloc _)).parts _ 1 rfl _ (blkAt rfl) ?c2 ?c3 ?_)
    case c2 => omega
    case c3 => have := (unhide X1).size; simp; omega
    intro ao cap w6 hp hg hloc
    obtain ⟨hB, hD⟩ := unhide KEY _ _ ((unhide X1).alloc _) ao cap w6 hp hg (by rw [World.size_alloc]; exact hloc)
    have d1 := hB.cell (i := 1) (v := .slice po ps.length pc) rfl
    have fy := fun i => hB.free i
    have HD := hide hD
    clear hB hD hp hg hloc c1
    go_wp2
    go_ret
    exact unhide HD
  | true =>
    rw [hcp] at HC
    cases hw : isWordL R with
    | false =>
      have hq : ((openP E ps R wanted).map fun q => (E, q)) = none := by unfold openP; simp [hcp, hw]
      rw [hq]
      clear hq hcp
      go_enter Tryd.func60, Tryd.ntmps60
      go_wp2_with fail
      refine (unhide HC).mono ?_
      rintro e w1 ⟨rfl, k, rfl⟩
      have HW := isWordT_any R ro rc (w.drewN k) ((unhide HR).ext ((Ext.refl w).drewN k))
      rw [hw] at HW
      have HWW := hide HW
      clear HW hw
      go_wp2_with fail
      refine (unhide HWW).mono ?_
      rintro e w2 ⟨rfl, rfl⟩
      go_wp2
      go_ret
      exact ⟨Out.of_ext ((Ext.refl w).drewN k), rfl⟩
    | true =>
      obtain ⟨x, hx, _⟩ := isWord_one hw
      subst hx
      have hq : ((openP E ps [x] wanted).map fun q => (E, q)) = some (E, ps ++ [⟨(E x.text).isSome == wanted, (E x.text).isSome != wanted, false⟩]) := by unfold openP; simp [hcp, hw, hd0]
      rw [hq]
      clear hq hcp
      obtain ⟨b, off, rfl, c⟩ := (unhide HR).at 0 (by simp)
      have cx := c.text
      simp only [Nat.zero_mul, Nat.add_zero, List.getElem_cons_zero] at cx
      clear c
      obtain ⟨ao0, m0, cap0, hlook, _⟩ := (unhide H).look x.text (by have := hlen x (by simp); unfold maxLen; omega)
      have HLK := hide hlook
      clear hlook
      generalize (E x.text).isSome = st at *
      go_enter Tryd.func60, Tryd.ntmps60
      go_wp2_with fail
      refine (unhide HC).mono ?_
      rintro e w1 ⟨rfl, k, rfl⟩
      have HW := isWordT_any [x] (some ⟨b, off, none⟩) rc (w.drewN k) ((unhide HR).ext ((Ext.refl w).drewN k))
      rw [hw] at HW
      have HWW := hide HW
      clear HW hw
      go_wp2_with fail
      refine (unhide HWW).mono ?_
      rintro e w2 ⟨rfl, rfl⟩
      obtain ⟨w1, hw1⟩ : ∃ w1, w1 = w.drewN k := ⟨_, rfl⟩
      have X1 : Hid (Ext w w1) := by rw [hw1]; exact (Ext.refl w).drewN k
      rw [← hw1]
      clear hw1
      have hrun0 := unhide HLK w1 (unhide X1)
      have hrun1 := unhide HLK w1.drew (unhide X1).drew
      have hrun2 := fun k => unhide HLK (w1.drewN k) ((unhide X1).drewN k)
      have c0 := ((unhide H).ext (unhide X1)).blk.cell (i := 0) (v := .map (some mb)) rfl
      have c1 := ((unhide H).ext (unhide X1)).blk.cell (i := 1) (v := .slice po ps.length pc) rfl
      have cx1 : w1.cell? ⟨b, off + 1, none⟩ = some (.string ⟨x.text.toArray⟩) := by
        rw [(unhide X1).cell (p := ⟨b, off + 1, none⟩) (World.block_lt_of_cell? w _ cx)]
        exact cx
      go_wp2
      go_quiet (fail)
      cases st <;> cases wanted
      all_goals
        go_wp2_with (at_builtin; refine wpList_append_part rfl (.tmp 41) (.tmp 49) rfl base _ ps ⟨_, _, _⟩ rfl ((unhide H).ext (((unhide X1).drewN _).alloc _)).parts _ 1 rfl _ (blkAt rfl) ?c2 ?c3 ?_)
        case c2 => omega
        case c3 => have := (unhide X1).size; simp; omega
        intro ao cap w6 hp hg hloc
        obtain ⟨hB, hD⟩ := unhide KEY _ _ (((unhide X1).drewN _).alloc _) ao cap w6 hp hg (by rw [World.size_alloc]; exact hloc)
        have d1 := hB.cell (i := 1) (v := .slice po ps.length pc) rfl
        have fy := fun i => hB.free i
        have HD := hide hD
        clear hB hD hp hg hloc c1 c0 cx1 hrun0 hrun1 hrun2
        go_wp2
        go_ret
        exact unhide HD
end Go.Proofs.YtgcliklpbahfaaaDoor

/-
  define, undef.
-/
namespace Go.Proofs.YtgcliklpbahfaaaDoor
open Go.RowKit
set_option linter.unusedVariables false
set_option linter.unusedSimpArgs false

/-- The tokens behind the first one: 'l[1:]'. -/
theorem TF.tail1 {T : Nat → Prop} {w : World} {b off n cap : Nat} {t : Tok} {L : List Tok} (h : TF T w (.slice (some ⟨b, off, none⟩) n cap) (t :: L)) : TF T w (.slice (if cap = 1 then some ⟨b, off, none⟩ else some ⟨b, off + 5, none⟩) L.length (cap - 1)) L := by
  by_cases h1 : cap = 1
  · rw [if_pos h1]
    obtain ⟨_, _, e, _, h2, h3, _⟩ := h.1
    cases e
    simp only [List.length_cons] at h2
    have hL : L = [] := List.length_eq_zero_iff.1 (by omega)
    subst hL
    exact ⟨⟨_, _, rfl, (fun e => by cases e), by simp, by omega, fun i hi => by simp at hi⟩, fun _ _ _ _ _ h => by simp at h⟩
  · rw [if_neg h1]
    exact h.tail (ao := none)

section
variable {w w' : World} {T T' : Nat → Prop} {base rb mb n : Nat} {po : Option Addr} {pc : Nat} {to : Option Addr} {tc : Nat} {E : Env} {ps : List Part} {tl : List Tok}
/-- The map turns. -/
theorem RD.inMap {g : Byts8 → Option Value} {F : Env} {m : Nat} (h : RD w T base rb mb n po pc to tc E ps tl) (hg : w.grownBy w' (some mb)) (hf : FM w' mb m g) (hs : ∀ k, Stnd T w' (g k) (F k)) : RD w' T base rb mb m po pc to tc F ps tl := by
  refine ⟨h.blk.grown hg h.ne, ⟨g, hf, hs⟩, ?_, ?_, h.trb, h.tmb, h.ne, h.tpo, h.tto, h.low, Nat.le_trans h.high hg.size⟩
  · refine World.ownsRow.kept h.parts hg ?_
    cases hv : (Value.slice po ps.length pc).ownBlock with
    | none => exact .inl rfl
    | some b => exact .inr (fun e => by cases e; exact (h.tpo _ hv).2.2 rfl)
  · refine World.ownsRow.kept h.told hg ?_
    cases hv : (Value.slice to tl.length tc).ownBlock with
    | none => exact .inl rfl
    | some b => exact .inr (fun e => by cases e; exact (h.tto _ hv).2.2.1 rfl)
theorem RD.putE (h : RD w T base rb mb n po pc to tc E ps tl) (k : Byts8) (hk : k.length ≤ maxLen) (hn : n < maxLen) (v : Value) (L : List Tok) (hv : TF T w v L) :
    ∃ w', (Instr.mapUpdate 37 (.map (some mb)) (.string ⟨k.toArray⟩) v).run Tryd.prog w = .ok () w' ∧ RD w' T base rb mb (n + 1) po pc to tc (setE E k (some L)) ps tl ∧ w.grownBy w' (some mb) := by
  obtain ⟨g, hg, hs⟩ := h.map
  obtain ⟨w', hrun, hf, hgr⟩ := hg.put (t := 37) (e := 23) Tryd.underlying37 hn k hk v
  have ho : Out T w w' := Out.of_grown hgr (fun k e => by cases e; exact h.tmb)
  refine ⟨w', hrun, h.inMap hgr hf (fun k' => ?_), hgr⟩
  unfold setE
  by_cases hkk : k' = k
  · rw [if_pos hkk, if_pos hkk]
    exact hv.out ho
  · rw [if_neg hkk, if_neg hkk]
    exact (hs k').out ho
theorem RD.delE (h : RD w T base rb mb n po pc to tc E ps tl) (k : Byts8) (hk : k.length ≤ maxLen) (ty : TypeId) :
    ∃ w', (Builtin.delete_ #[37, 9] ty #[.map (some mb), .string ⟨k.toArray⟩]).run Tryd.prog w = .ok (.tuple #[]) w' ∧ RD w' T base rb mb n po pc to tc (setE E k none) ps tl ∧ w.grownBy w' (some mb) := by
  obtain ⟨g, hg, hs⟩ := h.map
  obtain ⟨w', hrun, hf, hgr⟩ := hg.del (t := 37) (e := 23) Tryd.underlying37 k hk ty
  have ho : Out T w w' := Out.of_grown hgr (fun k e => by cases e; exact h.tmb)
  refine ⟨w', hrun, h.inMap hgr hf (fun k' => ?_), hgr⟩
  unfold setE
  by_cases hkk : k' = k
  · rw [if_pos hkk, if_pos hkk]
    trivial
  · rw [if_neg hkk, if_neg hkk]
    exact (hs k').out ho
end

set_option maxHeartbeats 4000000 in
set_option maxRecDepth 100000 in
theorem define_any {T : Nat → Prop} {base rb mb n : Nat} {po : Option Addr} {pc : Nat} {to : Option Addr} {tc : Nat} {E : Env} {ps : List Part} {tl : List Tok} (w : World) (h : RD w T base rb mb n po pc to tc E ps tl) (hn : n ≤ 1000000)
    (R : List Tok) (ro : Option Addr) (rc : Nat) (hR : TF T w (.slice ro R.length rc) R) (hlen : ∀ t ∈ R, t.text.length ≤ 1000000) (m : Int) (hm : w.cell? ⟨0, 0, none⟩ = some (.int .i64 m)) :
    Calls Tryd.prog 64 #[.pointer (some ⟨rb, 0, none⟩), .slice ro R.length rc] w (Did w T base rb mb n to tc tl ((defineP E R).map fun F => (F, ps))) := by
  have H := hide h
  have HR := hide hR
  have HM := hide hm
  clear h hR hm
  cases R with
  | nil =>
    have hq : ((defineP E []).map fun F => (F, ps)) = none := by unfold defineP; simp
    rw [hq]
    clear hq
    go_enter Tryd.func64, Tryd.ntmps64
    go_wp2
    go_ret
    exact ⟨Out.refl _ _, rfl⟩
  | cons x r =>
    obtain ⟨b, off, rfl, c⟩ := (unhide HR).1.at 0 (by simp)
    have cx := c.text
    simp only [Nat.zero_mul, Nat.add_zero, List.getElem_cons_zero] at cx
    clear c
    have hlx := hlen x (by simp)
    have hrc : r.length + 1 ≤ rc ∧ rc ≤ 9223372036854775807 := by
      obtain ⟨_, _, e, _, h2, h3, _⟩ := (unhide HR).1
      cases e
      unfold maxLen at h3
      simp at h2
      omega
    have HF := hide (fresh_any x.text w m (unhide HM))
    have b0 : ((r.length : Int) + 1 == 0) = false := beq_eq_false_iff_ne.2 (by omega)
    have hl : (x :: r).length = r.length + 1 := by simp
    obtain ⟨q, hq⟩ : ∃ q, q = ((defineP E (x :: r)).map fun F => (F, ps)) := ⟨_, rfl⟩
    rw [← hq]
    unfold defineP at hq
    rw [show (hd0 (x :: r)).text = x.text from rfl, show (x :: r).tail = r from rfl] at hq
    cases hf : freshP x.text with
    | false =>
      rw [hf] at hq HF
      have hq2 : q = none := by rw [hq]; simp
      subst hq2
      clear hq hf
      rw [hl] at *
      go_enter Tryd.func64, Tryd.ntmps64
      go_wp2_with fail
      refine (unhide HF).mono ?_
      rintro e w1 ⟨rfl, hx1⟩
      have X1 := hide hx1
      clear hx1
      go_wp2
      go_ret
      exact ⟨Out.of_ext (unhide X1), rfl⟩
    | true =>
      rw [hf] at hq HF
      obtain ⟨ao0, m0, cap0, hlook, _⟩ := (unhide H).look x.text (by unfold maxLen; omega)
      have HLK := hide hlook
      clear hlook hf
      cases hst : (E x.text).isSome with
      | true =>
        rw [hst] at HLK hq
        have hq2 : q = none := by rw [hq]; simp
        subst hq2
        clear hq hst
        rw [hl] at *
        go_enter Tryd.func64, Tryd.ntmps64
        go_wp2_with fail
        refine (unhide HF).mono ?_
        rintro e w1 ⟨rfl, hx1⟩
        have X1 := hide hx1
        clear hx1
        have hrun := unhide HLK w1 (unhide X1)
        have c0 := ((unhide H).ext (unhide X1)).blk.cell (i := 0) (v := .map (some mb)) rfl
        have cx1 : w1.cell? ⟨b, off + 1, none⟩ = some (.string ⟨x.text.toArray⟩) := by
          rw [(unhide X1).cell (p := ⟨b, off + 1, none⟩) (World.block_lt_of_cell? w _ cx)]
          exact cx
        go_wp2
        go_ret
        exact ⟨Out.of_ext (unhide X1), rfl⟩
      | false =>
        rw [hst] at HLK hq
        have hq2 : q = some (setE E x.text (some r), ps) := by rw [hq]; simp
        subst hq2
        clear hq hst
        have HTL : Hid (∀ w1, Ext w w1 → TF T w1 (.slice (if rc = 1 then some ⟨b, off, none⟩ else some ⟨b, off + 5, none⟩) r.length (rc - 1)) r) := fun w1 hx => ((unhide HR).ext hx).tail1
        rw [hl] at *
        go_enter Tryd.func64, Tryd.ntmps64
        go_wp2_with fail
        refine (unhide HF).mono ?_
        rintro e w1 ⟨rfl, hx1⟩
        have X1 := hide hx1
        clear hx1
        have hrun := unhide HLK w1 (unhide X1)
        have c0 := ((unhide H).ext (unhide X1)).blk.cell (i := 0) (v := .map (some mb)) rfl
        have cx1 : w1.cell? ⟨b, off + 1, none⟩ = some (.string ⟨x.text.toArray⟩) := by
          rw [(unhide X1).cell (p := ⟨b, off + 1, none⟩) (World.block_lt_of_cell? w _ cx)]
          exact cx
        obtain ⟨w2, hput, hrd, hgr⟩ := ((unhide H).ext (unhide X1).drew).putE x.text (by unfold maxLen; omega) (by unfold maxLen; omega) _ r (unhide HTL w1.drew (unhide X1).drew)
        have HRD := hide hrd
        have HGR := hide hgr
        clear hrd hgr
        go_wp2
        go_region
        go_wp2
        all_goals
          go_ret
          exact ⟨(Out.of_ext (unhide X1).drew).trans (Out.of_grown (T := T) (unhide HGR) (fun k e => by cases e; exact (unhide H).tmb)) (fun b hb => .inl hb), rfl, T, _, _, Wid.refl _ _, unhide HRD⟩

set_option maxHeartbeats 4000000 in
set_option maxRecDepth 100000 in
theorem undef_any {T : Nat → Prop} {base rb mb n : Nat} {po : Option Addr} {pc : Nat} {to : Option Addr} {tc : Nat} {E : Env} {ps : List Part} {tl : List Tok} (w : World) (h : RD w T base rb mb n po pc to tc E ps tl)
    (R : List Tok) (ro : Option Addr) (rc : Nat) (hR : TF T w (.slice ro R.length rc) R) (hlen : ∀ t ∈ R, t.text.length ≤ 1000000) (m : Int) (hm : w.cell? ⟨0, 0, none⟩ = some (.int .i64 m)) :
    Calls Tryd.prog 65 #[.pointer (some ⟨rb, 0, none⟩), .slice ro R.length rc] w (Did w T base rb mb n to tc tl ((undefP E R).map fun F => (F, ps))) := by
  have H := hide h
  have HR := hide hR
  have HM := hide hm
  clear h hR hm
  have HW := isWordT_any R ro rc w (unhide HR).1
  obtain ⟨q, hq⟩ : ∃ q, q = ((undefP E R).map fun F => (F, ps)) := ⟨_, rfl⟩
  rw [← hq]
  unfold undefP at hq
  cases hw : isWordL R with
  | false =>
    rw [hw] at HW hq
    have hq2 : q = none := by rw [hq]; simp
    subst hq2
    have HWW := hide HW
    clear hq hw HW
    go_enter Tryd.func65, Tryd.ntmps65
    go_wp2_with fail
    refine (unhide HWW).mono ?_
    rintro e w1 ⟨rfl, rfl⟩
    go_wp2
    go_ret
    exact ⟨Out.refl _ _, rfl⟩
  | true =>
    obtain ⟨x, hx, _⟩ := isWord_one hw
    subst hx
    rw [hw] at HW hq
    rw [show (hd0 [x]).text = x.text from rfl] at hq
    have HWW := hide HW
    obtain ⟨b, off, rfl, c⟩ := (unhide HR).1.at 0 (by simp)
    have cx := c.text
    simp only [Nat.zero_mul, Nat.add_zero, List.getElem_cons_zero] at cx
    have hlx := hlen x (by simp)
    have HF := hide (fresh_any x.text w m (unhide HM))
    clear HW hw c
    cases hf : freshP x.text with
    | false =>
      rw [hf] at hq HF
      have hq2 : q = none := by rw [hq]; simp
      subst hq2
      clear hq hf
      go_enter Tryd.func65, Tryd.ntmps65
      go_wp2_with fail
      refine (unhide HWW).mono ?_
      rintro e w1 ⟨rfl, rfl⟩
      go_wp2_with fail
      refine (unhide HF).mono ?_
      rintro e w1 ⟨rfl, hx1⟩
      have X1 := hide hx1
      clear hx1
      go_wp2
      go_ret
      exact ⟨Out.of_ext (unhide X1), rfl⟩
    | true =>
      rw [hf] at hq HF
      have hq2 : q = some (setE E x.text none, ps) := by rw [hq]; simp
      subst hq2
      clear hq hf
      go_enter Tryd.func65, Tryd.ntmps65
      go_wp2_with fail
      refine (unhide HWW).mono ?_
      rintro e w1 ⟨rfl, rfl⟩
      go_wp2_with fail
      refine (unhide HF).mono ?_
      rintro e w1 ⟨rfl, hx1⟩
      have X1 := hide hx1
      clear hx1
      have c0 := ((unhide H).ext (unhide X1)).blk.cell (i := 0) (v := .map (some mb)) rfl
      have cx1 : w1.cell? ⟨b, off + 1, none⟩ = some (.string ⟨x.text.toArray⟩) := by
        rw [(unhide X1).cell (p := ⟨b, off + 1, none⟩) (World.block_lt_of_cell? _ _ cx)]
        exact cx
      obtain ⟨w2, hput, hrd, hgr⟩ := ((unhide H).ext (unhide X1).drew).delE x.text (by unfold maxLen; omega) 0
      have HRD := hide hrd
      have HGR := hide hgr
      clear hrd hgr
      go_wp2
      go_region
      go_wp2
      go_ret
      refine ⟨(Out.of_ext (unhide X1).drew).trans (Out.of_grown (T := T) (unhide HGR) (fun k e => by cases e; exact (unhide H).tmb)) (fun b hb => .inl hb), rfl, T, _, _, Wid.refl _ _, (unhide HRD).more (Nat.le_succ _)⟩
end Go.Proofs.YtgcliklpbahfaaaDoor
