/-
  A reader in memory; counts, turn, end.
-/
import Derived.Test.YtdcamcpffiilbaaDoorZB
import Derived.Laws.OwnMore
import Derived.Deep.QuietTactic
import Derived.BigQuiet
namespace Go.Proofs.YtdcamcpffiilbaaDoor
open Go.RowKit
set_option linter.unusedVariables false
set_option linter.unusedSimpArgs false

def pcell (p : Part) : List Value := [.bool p.counts, .bool p.other, .bool p.turned]
def pcells (ps : List Part) : List Value := ps.flatMap pcell
theorem pcells_len (ps : List Part) : (pcells ps).length = ps.length * 3 := by
  induction ps with
  | nil => rfl
  | cons x r ih =>
    unfold pcells at ih ⊢
    rw [List.flatMap_cons, List.length_append, ih]
    simp [pcell]
    omega
theorem pcells_app (A B : List Part) : pcells (A ++ B) = pcells A ++ pcells B := by
  unfold pcells
  rw [List.flatMap_append]
/-- Open parts, the call's own. -/
def PO (w : World) (base : Nat) (v : Value) (ps : List Part) : Prop := w.ownsRow base 80 3 v ps.length (pcells ps)
theorem PO.nil (w : World) (base : Nat) : PO w base (.slice none 0 0) [] := World.ownsRow_nil _ _ _ _
section
variable {w w' : World} {base : Nat} {po : Option Addr} {n pc : Nat} {ps : List Part} {p : Part}
theorem PO.last (h : PO w base (.slice po n pc) (ps ++ [p])) : ∃ g, po = some ⟨g, 0, none⟩ ∧ n = ps.length + 1 ∧ ps.length + 1 ≤ pc ∧ w.cell? ⟨g, ps.length * 3, none⟩ = some (.bool p.counts) ∧ w.cell? ⟨g, ps.length * 3 + 1, none⟩ = some (.bool p.other) ∧ w.cell? ⟨g, ps.length * 3 + 2, none⟩ = some (.bool p.turned) ∧ ∀ j, w.frozen? ⟨g, j, none⟩ = false := by
  have hl : (ps ++ [p]).length = ps.length + 1 := by simp
  have h0 := h
  unfold PO at h
  rw [hl] at h
  rcases h.2 with ⟨_, e⟩ | ⟨g, cap, cur, e, hb, hg, hnc, hcm, hcs, ht⟩
  · omega
  · cases e
    refine ⟨g, rfl, rfl, hnc, ?_, ?_, ?_, fun j => h.frozenAt j⟩
    · rw [h.cellAt (ps.length * 3) (by omega), pcells_app, List.getElem?_append_right (by rw [pcells_len]; omega), pcells_len]
      simp [pcells, pcell]
    · rw [h.cellAt (ps.length * 3 + 1) (by omega), pcells_app, List.getElem?_append_right (by rw [pcells_len]; omega), pcells_len, Nat.add_sub_cancel_left]
      simp [pcells, pcell]
    · rw [h.cellAt (ps.length * 3 + 2) (by omega), pcells_app, List.getElem?_append_right (by rw [pcells_len]; omega), pcells_len, Nat.add_sub_cancel_left]
      simp [pcells, pcell]
theorem PO.front (h : PO w base (.slice po n pc) (ps ++ [p])) : PO w base (.slice po ps.length pc) ps := by
  have hl : (ps ++ [p]).length = ps.length + 1 := by simp
  unfold PO at h ⊢
  rw [hl] at h
  rcases h.2 with ⟨_, e⟩ | ⟨g, cap, cur, e, hb, hg, hnc, hcm, hcs, ht⟩
  · omega
  · cases e
    refine ⟨pcells_len ps, .inr ⟨g, pc, cur, rfl, hb, hg, by omega, hcm, hcs, ?_⟩⟩
    have := congrArg (List.take (ps.length * 3)) ht
    rw [List.take_take, pcells_app, List.take_left' (pcells_len ps)] at this
    rw [← this]
    congr 1
    omega
/-- The other half of the last part. -/
theorem PO.turn {g : Nat} (h : PO w base (.slice (some ⟨g, 0, none⟩) n pc) (ps ++ [p])) : PO ((w.setCell ⟨g, ps.length * 3, none⟩ (.bool p.other)).setCell ⟨g, ps.length * 3 + 2, none⟩ (.bool true)) base (.slice (some ⟨g, 0, none⟩) n pc) (ps ++ [⟨p.other, p.other, true⟩]) := by
  have hl : (ps ++ [p]).length = ps.length + 1 := by simp
  have hl2 : (ps ++ [(⟨p.other, p.other, true⟩ : Part)]).length = ps.length + 1 := by simp
  unfold PO at h ⊢
  rw [hl] at h
  rw [hl2]
  have hn : n = ps.length + 1 := by
    rcases h.2 with ⟨_, e⟩ | ⟨g, cap, cur, e, _⟩
    · omega
    · cases e; rfl
  subst hn
  have h1 := ((h.stored (ps.length * 3) (.bool p.other)).1.stored (ps.length * 3 + 2) (.bool true)).1
  have e : ((pcells (ps ++ [p])).set (ps.length * 3) (.bool p.other)).set (ps.length * 3 + 2) (.bool true) = pcells (ps ++ [(⟨p.other, p.other, true⟩ : Part)]) := by
    rw [pcells_app, pcells_app, List.set_append_right _ _ (by rw [pcells_len]; omega), List.set_append_right _ _ (by rw [pcells_len]; omega), pcells_len, Nat.sub_self, Nat.add_sub_cancel_left]
    rfl
  rw [e] at h1
  exact h1
end

/-- What a word stands for, in memory. -/
def Stnd (T : Nat → Prop) (w : World) (v : Option Value) (L : Option (List Tok)) : Prop :=
  match v, L with
  | none, none => True
  | some v, some L => TF T w v L
  | _, _ => False
/-- A reader in memory. -/
structure RD (w : World) (T : Nat → Prop) (base rb mb n : Nat) (po : Option Addr) (pc : Nat) (to : Option Addr) (tc : Nat) (E : Env) (ps : List Part) (tl : List Tok) : Prop where
  blk : Blk w rb #[.map (some mb), .slice po ps.length pc, .slice to tl.length tc] 40
  map : ∃ g, FM w mb n g ∧ ∀ k, Stnd T w (g k) (E k)
  parts : PO w base (.slice po ps.length pc) ps
  told : TO w base (.slice to tl.length tc) tl
  trb : T rb
  tmb : T mb
  ne : rb ≠ mb
  tpo : ∀ b, (Value.slice po ps.length pc).ownBlock = some b → T b ∧ b ≠ rb ∧ b ≠ mb
  tto : ∀ b, (Value.slice to tl.length tc).ownBlock = some b → T b ∧ b ≠ rb ∧ b ≠ mb ∧ (Value.slice po ps.length pc).ownBlock ≠ some b
  low : ∀ b, T b → base ≤ b
  high : base ≤ w.heap.size
section
variable {w w' : World} {T T' : Nat → Prop} {base rb mb n : Nat} {po : Option Addr} {pc : Nat} {to : Option Addr} {tc : Nat} {E : Env} {ps : List Part} {tl : List Tok}
theorem Stnd.out {v : Option Value} {L : Option (List Tok)} (h : Stnd T w v L) (ho : Out T w w') : Stnd T w' v L := by
  unfold Stnd at *
  split at h
  · trivial
  · exact h.out ho
  · exact h
theorem Stnd.wid {v : Option Value} {L : Option (List Tok)} (h : Stnd T w v L) (hw : Wid T T' w) : Stnd T' w v L := by
  unfold Stnd at *
  split at h
  · trivial
  · exact h.wid hw
  · exact h
theorem Stnd.step {v : Option Value} {L : Option (List Tok)} (h : Stnd T w v L) (ho : Out T w w') (hw : Wid T T' w) : Stnd T' w' v L := by
  unfold Stnd at *
  split at h
  · trivial
  · exact h.step ho hw
  · exact h
theorem ownsKept {w w' : World} {base : Nat} {e : TypeId} {size n : Nat} {v : Value} {xs : List Value} {T : Nat → Prop} (h : w.ownsRow base e size v n xs) (ho : Out T w w') (hv : ∀ b, v.ownBlock = some b → ¬ T b) : w'.ownsRow base e size v n xs := by
  refine ⟨h.1, ?_⟩
  rcases h.2 with hn | ⟨g, cap, cur, e, hb, hg, r⟩
  · exact .inl hn
  · refine .inr ⟨g, cap, cur, e, hb, ?_, r⟩
    have hl : g < w.heap.size := (Array.getElem?_eq_some_iff.1 hg).1
    exact (ho.block g hl (hv g (by rw [e]; rfl))).trans hg
/-- What turns beside a reader leaves it. -/
theorem RD.beside {U : Nat → Prop} (h : RD w T base rb mb n po pc to tc E ps tl) (ho : Out U w w') (hU : ∀ b, U b → ¬ T b) (hE : ∀ k L, E k = some L → ∀ v, TF T w v L → TF T w' v L) : RD w' T base rb mb n po pc to tc E ps tl := by
  obtain ⟨g, hg, hs⟩ := h.map
  refine ⟨h.blk.out ho (fun e => hU _ e h.trb), ⟨g, hg.out ho (fun e => hU _ e h.tmb), fun k => ?_⟩, ownsKept h.parts ho (fun b hb e => hU b e (h.tpo b hb).1), ownsKept h.told ho (fun b hb e => hU b e (h.tto b hb).1), h.trb, h.tmb, h.ne, h.tpo, h.tto, h.low, Nat.le_trans h.high ho.size⟩
  have := hs k
  unfold Stnd at this ⊢
  split at this
  · trivial
  · rename_i v L e1 e2
    exact hE k L e2 v this
  · exact this
theorem RD.ext (h : RD w T base rb mb n po pc to tc E ps tl) (hx : Ext w w') : RD w' T base rb mb n po pc to tc E ps tl :=
  h.beside (U := fun _ => False) (Out.of_ext hx) (fun _ e => e.elim) (fun _ _ _ _ hv => hv.ext hx)
end

theorem lastP (ps : List Part) (h : ps ≠ []) : ∃ A p, ps = A ++ [p] := ⟨ps.dropLast, ps.getLast h, (List.dropLast_concat_getLast h).symm⟩

set_option maxHeartbeats 1000000 in
theorem counts_any {T : Nat → Prop} {base rb mb n : Nat} {po : Option Addr} {pc : Nat} {to : Option Addr} {tc : Nat} {E : Env} {ps : List Part} {tl : List Tok} (w : World) (h : RD w T base rb mb n po pc to tc E ps tl) (hps : ps.length ≤ 100000) :
    Calls Tryd.prog 22 #[.pointer (some ⟨rb, 0, none⟩)] w fun e w' => e = .returned (.bool (countsP ps)) ∧ ∃ k, w' = w.drewN k := by
  have c1 := h.blk.cell (i := 1) (v := .slice po ps.length pc) rfl
  by_cases h0 : ps = []
  · subst h0
    clear h
    show Calls Tryd.prog 22 #[.pointer (some ⟨rb, 0, none⟩)] w fun e w' => e = .returned (.bool true) ∧ ∃ k, w' = w.drewN k
    go_enter Tryd.func22, Tryd.ntmps22
    go_wp2
    go_quiet (fail)
    go_wp2
    go_ret
    exact ⟨rfl, _, rfl⟩
  · obtain ⟨A, p, rfl⟩ := lastP ps h0
    obtain ⟨g, rfl, hn, hpc, q0, q1, q2, _⟩ := h.parts.last
    have hcp : countsP (A ++ [p]) = p.counts := by unfold countsP; simp
    rw [hcp]
    have hl : (A ++ [p]).length = A.length + 1 := by simp
    rw [hl] at c1 hps
    clear h h0 hcp q1 q2 hn
    have b0 : ((A.length : Int) + 1 == 0) = false := beq_eq_false_iff_ne.2 (by omega)
    have w1 : IntKind.i64.wrap ((A.length : Int) + 1 - 1) = A.length := by rw [Int.add_sub_cancel]; exact wrapIdX (by omega) (by omega)
    have w2 : (A.length : Int) + 1 - 1 = A.length := by omega
    go_enter Tryd.func22, Tryd.ntmps22
    go_wp2
    go_quiet (fail)
    go_wp2
    go_ret
    exact ⟨rfl, _, rfl⟩
end Go.Proofs.YtdcamcpffiilbaaDoor
