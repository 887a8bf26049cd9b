/-
  Tokens line by line.
-/
import Derived.Test.YtdcamcpffiilbaaDoorZT
namespace Go.Proofs.YtdcamcpffiilbaaDoor
open Go.RowKit
set_option linter.unusedVariables false
set_option linter.unusedSimpArgs false

/-- A token ahead of lines. -/
def linesC (u : Tok) (R : List (List Tok)) : List (List Tok) := match R with
  | [] => [[u]]
  | r :: rs => if u.line = (hd0 r).line then (u :: r) :: rs else [u] :: r :: rs
theorem linesP_cons (u : Tok) (ts : List Tok) : linesP (u :: ts) = linesC u (linesP ts) := rfl
theorem linesC_pos {u : Tok} {r : List Tok} (rs : List (List Tok)) (h : u.line = (hd0 r).line) : linesC u (r :: rs) = (u :: r) :: rs := if_pos h
theorem linesC_neg {u : Tok} {r : List Tok} (rs : List (List Tok)) (h : ¬ u.line = (hd0 r).line) : linesC u (r :: rs) = [u] :: r :: rs := if_neg h
theorem linesC_app (y t : Tok) (B : List (List Tok)) (L : List Tok) (hL : L ≠ []) : ∃ B' L', linesC y (B ++ [L]) = B' ++ [L'] ∧ L' ≠ [] ∧ linesC y (B ++ [L ++ [t]]) = B' ++ [L' ++ [t]] ∧ linesC y (B ++ [L, [t]]) = B' ++ [L', [t]] := by
  cases B with
  | nil =>
    have hh : hd0 (L ++ [t]) = hd0 L := by
      cases L with
      | nil => exact absurd rfl hL
      | cons a l => rfl
    by_cases hu : y.line = (hd0 L).line
    · exact ⟨[], y :: L, linesC_pos [] hu, by simp, linesC_pos [] (by rw [hh]; exact hu), linesC_pos [[t]] hu⟩
    · exact ⟨[[y]], L, linesC_neg [] hu, hL, linesC_neg [] (by rw [hh]; exact hu), linesC_neg [[t]] hu⟩
  | cons b B =>
    by_cases hu : y.line = (hd0 b).line
    · exact ⟨(y :: b) :: B, L, linesC_pos _ hu, hL, linesC_pos _ hu, linesC_pos _ hu⟩
    · exact ⟨[y] :: b :: B, L, linesC_neg _ hu, hL, linesC_neg _ hu, linesC_neg _ hu⟩
/-- One token more. -/
theorem lines_snoc (u t : Tok) : ∀ (Y : List Tok), ∃ B L, linesP (Y ++ [u]) = B ++ [L] ∧ L ≠ [] ∧ (u.line = t.line → linesP (Y ++ [u] ++ [t]) = B ++ [L ++ [t]]) ∧ (¬ u.line = t.line → linesP (Y ++ [u] ++ [t]) = B ++ [L, [t]])
  | [] => ⟨[], [u], rfl, by simp, fun h => linesC_pos [] h, fun h => linesC_neg [] h⟩
  | y :: Y => by
    obtain ⟨B, L, h1, h2, h3, h4⟩ := lines_snoc u t Y
    obtain ⟨B', L', e1, e2, e3, e4⟩ := linesC_app y t B L h2
    refine ⟨B', L', ?_, e2, fun h => ?_, fun h => ?_⟩
    · show linesC y (linesP (Y ++ [u])) = _
      rw [h1, e1]
    · show linesC y (linesP (Y ++ [u] ++ [t])) = _
      rw [h3 h, e3]
    · show linesC y (linesP (Y ++ [u] ++ [t])) = _
      rw [h4 h, e4]
theorem lines_same {Y : List Tok} {u t : Tok} {B : List (List Tok)} {L : List Tok} (h : linesP (Y ++ [u]) = B ++ [L]) (ht : u.line = t.line) : linesP (Y ++ [u] ++ [t]) = B ++ [L ++ [t]] := by
  obtain ⟨B', L', h1, _, h3, _⟩ := lines_snoc u t Y
  rw [h] at h1
  obtain ⟨rfl, e⟩ := List.append_inj' h1 rfl
  cases e
  exact h3 ht
theorem lines_other {Y : List Tok} {u t : Tok} (ht : ¬ u.line = t.line) : linesP (Y ++ [u] ++ [t]) = linesP (Y ++ [u]) ++ [[t]] := by
  obtain ⟨B', L', h1, _, _, h4⟩ := lines_snoc u t Y
  rw [h4 ht, h1]
  simp

theorem infoR : (Tryd.prog.info? 23).map (fun i => (i.zero, i.size, i.bytes)) = some (some (.slice none 0 0), 1, 24) := by kernel_rfl
theorem TF.wid2 {T T' : Nat → Prop} {w : World} {v : Value} {L : List Tok} (h : TF T w v L) (hw : ∀ b, T' b → T b ∨ w.heap.size ≤ b) : TF T' w v L := by
  have : TF (fun b => T b ∨ T' b) w v L := h.wid (fun b => ⟨fun _ => .inl, fun e => e.elim .inl (hw b)⟩)
  exact ⟨this.1, fun b off n cap e hL hT => this.2 b off n cap e hL (.inr hT)⟩
/-- Blocks that may still turn: the row of rows, and the last row. -/
def LT (ov v : Value) (b : Nat) : Prop := ov.ownBlock = some b ∨ v.ownBlock = some b
/-- Rows of tokens in memory: all but the last are done. -/
structure LI (w : World) (base : Nat) (ro : Option Addr) (rc : Nat) (A : List (Value × List Tok)) (v : Value) (L : List Tok) : Prop where
  outer : w.ownsRow base 23 1 (.slice ro (A.length + 1) rc) (A.length + 1) (A.map (·.1) ++ [v])
  rows : ∀ p ∈ A, TF (LT (.slice ro (A.length + 1) rc) v) w p.1 p.2 ∧ ∀ b, p.1.ownBlock = some b → base ≤ b
  last : TO w base v L
  ne : ∀ b, v.ownBlock = some b → (Value.slice ro (A.length + 1) rc).ownBlock ≠ some b
/-- Rows of tokens that are read. -/
def LR (w : World) (base : Nat) (v : Value) (P : List (Value × List Tok)) : Prop := w.ownsRow base 23 1 v P.length (P.map (·.1)) ∧ ∀ p ∈ P, TR w p.1 p.2 ∧ ∀ b, p.1.ownBlock = some b → base ≤ b
section
variable {w w' : World} {base : Nat} {ro : Option Addr} {rc : Nat} {A : List (Value × List Tok)} {v : Value} {L : List Tok}
theorem LI.lr (h : LI w base ro rc A v L) : LR w base (.slice ro (A.length + 1) rc) (A ++ [(v, L)]) := by
  refine ⟨?_, fun p hp => ?_⟩
  · have hl : (A ++ [(v, L)]).length = A.length + 1 := by simp
    rw [hl, List.map_append]
    exact h.outer
  · rcases List.mem_append.1 hp with hp | hp
    · exact ⟨(h.rows p hp).1.1, (h.rows p hp).2⟩
    · simp at hp
      subst hp
      exact ⟨h.last.tr, fun b hb => (World.ownsRow.lt h.last b hb).1⟩
theorem LI.ext (h : LI w base ro rc A v L) (hx : Ext w w') : LI w' base ro rc A v L := by
  refine ⟨?_, fun p hp => ⟨(h.rows p hp).1.ext hx, (h.rows p hp).2⟩, h.last.ext hx, h.ne⟩
  exact ownsKept (T := fun _ => False) h.outer (Out.of_ext hx) (fun _ _ e => e)
/-- The last row grows; its place in the row of rows is set. -/
theorem LI.more {v' : Value} {t : Tok} {g : Nat} (h : LI w base (some ⟨g, 0, none⟩) rc A v L) (hg : w.grownBy w' v.ownBlock) (ho : TO w' base v' (L ++ [t])) (hloc : ∀ b, v'.ownBlock = some b → v.ownBlock = some b ∨ w.heap.size ≤ b) (hone : v'.oneCell' = true) :
    LI (w'.setCell ⟨g, A.length, none⟩ v') base (some ⟨g, 0, none⟩) rc A v' (L ++ [t]) ∧ Below base w (w'.setCell ⟨g, A.length, none⟩ v') := by
  have hgb := World.ownsRow.lt h.outer g rfl
  have hg7 := grownBy_set w' g A.length v'
  have hne : v.ownBlock ≠ some g := fun e => h.ne g e rfl
  have hne' : ∀ b, v'.ownBlock = some b → b ≠ g := fun b hb e => by
    rcases hloc b hb with h1 | h1
    · exact hne (e ▸ h1)
    · omega
  have hout : Out (LT (.slice (some ⟨g, 0, none⟩) (A.length + 1) rc) v) w (w'.setCell ⟨g, A.length, none⟩ v') := (Out.of_grown hg (fun k e => .inr e)).trans (Out.of_grown hg7 (T := LT (.slice (some ⟨g, 0, none⟩) (A.length + 1) rc) v) (fun k e => by cases e; exact .inl rfl)) (fun k e => .inl e)
  refine ⟨⟨?_, fun p hp => ⟨?_, (h.rows p hp).2⟩, ?_, fun b hb e => ?_⟩, ?_⟩
  · have h1 := World.ownsRow.kept h.outer hg (.inr (fun e => hne e.symm))
    have h2 := (h1.stored A.length v').1
    have e : (A.map (·.1) ++ [v]).set A.length v' = A.map (·.1) ++ [v'] := by
      rw [List.set_append_right _ _ (by simp)]
      simp
    rw [e] at h2
    exact h2
  · have h1 := ((h.rows p hp).1.wid2 (T' := fun b => LT (.slice (some ⟨g, 0, none⟩) (A.length + 1) rc) v b ∨ LT (.slice (some ⟨g, 0, none⟩) (A.length + 1) rc) v' b) (fun b hb => ?_))
    · have h2 := h1.out (hout.wide (fun k e => .inl e))
      exact ⟨h2.1, fun b off n cap e hL hT => h2.2 b off n cap e hL (.inr hT)⟩
    · rcases hb with hb | hb | hb
      · exact .inl hb
      · exact .inl (.inl hb)
      · rcases hloc b hb with h1 | h1
        · exact .inl (.inr h1)
        · exact .inr h1
  · refine World.ownsRow.kept ho hg7 ?_
    cases hv : v'.ownBlock with
    | none => exact .inl rfl
    | some b => exact .inr (fun e => hne' b hv (by cases e; rfl))
  · exact hne' b hb (by cases e; rfl)
  · have hb1 : Below base w w' := grown_below hg (by have := hgb; omega) (fun b hb => (World.ownsRow.lt h.last b hb).1)
    exact ⟨hb1.os, hb1.tape, hb1.output, Nat.le_trans hb1.size hg7.size, fun k hk => (hg7.block k (by have := hb1.size; omega) (fun e => by cases e; omega)).trans (hb1.block k hk)⟩
/-- A new row begins. -/
theorem LI.next {ro' : Option Addr} {rc' : Nat} (h : LI w base ro rc A v L) (hg : w.grownBy w' (Value.slice ro (A.length + 1) rc).ownBlock) (ho : w'.ownsRow base 23 1 (.slice ro' (A.length + 1 + 1) rc') (A.length + 1 + 1) (A.map (·.1) ++ [v] ++ [.slice none 0 0]))
    (hloc : ∀ b, (Value.slice ro' (A.length + 1 + 1) rc').ownBlock = some b → (Value.slice ro (A.length + 1) rc).ownBlock = some b ∨ w.heap.size ≤ b) : LI w' base ro' rc' (A ++ [(v, L)]) (.slice none 0 0) [] := by
  have hl : (A ++ [(v, L)]).length = A.length + 1 := by simp
  have hTs : ∀ b, LT (.slice ro' (A.length + 1 + 1) rc') (.slice none 0 0) b → (Value.slice ro (A.length + 1) rc).ownBlock = some b ∨ w.heap.size ≤ b := fun b hb => by
    rcases hb with hb | hb
    · exact hloc b hb
    · cases hb
  have hout : Out (fun b => (Value.slice ro (A.length + 1) rc).ownBlock = some b) w w' := Out.of_grown hg (fun k e => e)
  refine ⟨?_, fun p hp => ?_, TO.nil _ _, fun b hb => by cases hb⟩
  · rw [hl, List.map_append]
    exact ho
  · rw [hl]
    rcases List.mem_append.1 hp with hp | hp
    · refine ⟨?_, (h.rows p hp).2⟩
      have h1 : TF (fun b => (Value.slice ro (A.length + 1) rc).ownBlock = some b) w p.1 p.2 := (h.rows p hp).1.wid2 (fun b hb => .inl (.inl hb))
      have h2 := h1.wid2 (T' := fun b => (Value.slice ro (A.length + 1) rc).ownBlock = some b ∨ LT (.slice ro' (A.length + 1 + 1) rc') (.slice none 0 0) b) (fun b hb => hb.elim .inl (hTs b))
      have h3 := h2.out (hout.wide (fun k e => .inl e))
      exact ⟨h3.1, fun b off n cap e hL hT => h3.2 b off n cap e hL (.inr hT)⟩
    · simp at hp
      subst hp
      refine ⟨?_, fun b hb => (World.ownsRow.lt h.last b hb).1⟩
      have h1 : TF (fun b => (Value.slice ro (A.length + 1) rc).ownBlock = some b) w v L := ⟨h.last.tr, fun b off n cap e hL hT => h.ne b (by rw [e]; rfl) hT⟩
      have h2 := h1.wid2 (T' := fun b => (Value.slice ro (A.length + 1) rc).ownBlock = some b ∨ LT (.slice ro' (A.length + 1 + 1) rc') (.slice none 0 0) b) (fun b hb => hb.elim .inl (hTs b))
      have h3 := h2.out (hout.wide (fun k e => .inl e))
      exact ⟨h3.1, fun b off n cap e hL hT => h3.2 b off n cap e hL (.inr hT)⟩
end
end Go.Proofs.YtdcamcpffiilbaaDoor
