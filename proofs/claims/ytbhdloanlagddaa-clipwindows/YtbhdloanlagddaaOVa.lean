/-
  Rows of vectors that are the call's own; what a store does.
-/
import Derived.Test.YtbhdloanlagddaaGO
import Derived.Test.YtbhdloanlagddaaVH
namespace Go.Proofs.Ytbhdloanlagddaa
open Go.RowKit
set_option linter.unusedVariables false
set_option linter.unusedSimpArgs false

/-- A vector's cells. -/
def vEnc (a : Nat → Int) : List Value := [.int .i32 (a 0), .int .i32 (a 1), .int .i32 (a 2), .int .i32 (a 3)]
theorem vEnc_len (a : Nat → Int) : (vEnc a).length = 4 := rfl
/-- A row of vectors that is the call's own. -/
def OV (w : World) (base : Nat) (v : Value) (L : List (Nat → Int)) : Prop := GO vEnc 26 4 w base v L
theorem set_skip (a : Nat → Int) (t : List Value) (n : Nat) (v : Value) : (vEnc a ++ t).set (n + 4) v = vEnc a ++ t.set n v := rfl
theorem flat_set4 (x : Nat → Int) : ∀ (L : List (Nat → Int)) (k : Nat), k < L.length →
    ((((L.flatMap vEnc).set (k * 4) (.int .i32 (x 0))).set (k * 4 + 1) (.int .i32 (x 1))).set (k * 4 + 2) (.int .i32 (x 2))).set (k * 4 + 3) (.int .i32 (x 3)) = (L.set k x).flatMap vEnc
  | a :: r, 0, _ => by simp [vEnc]
  | a :: r, k + 1, h => by
    have ih := flat_set4 x r k (by simpa using h)
    rw [show (k + 1) * 4 = k * 4 + 4 by omega, show k * 4 + 4 + 1 = (k * 4 + 1) + 4 by omega, show k * 4 + 4 + 2 = (k * 4 + 2) + 4 by omega, show k * 4 + 4 + 3 = (k * 4 + 3) + 4 by omega]
    rw [List.flatMap_cons, set_skip, set_skip, set_skip, set_skip, ih, List.set_cons_succ, List.flatMap_cons]
/-- A vector stored into a row that is the call's own. -/
theorem OV.store {w : World} {base g n cap : Nat} {L : List (Nat → Int)} (h : OV w base (.slice (some ⟨g, 0, none⟩) n cap) L) (k : Nat) (hk : k < L.length) (x : Nat → Int) :
    OV ((((w.setCell ⟨g, k * 4, none⟩ (.int .i32 (x 0))).setCell ⟨g, k * 4 + 1, none⟩ (.int .i32 (x 1))).setCell ⟨g, k * 4 + 2, none⟩ (.int .i32 (x 2))).setCell ⟨g, k * 4 + 3, none⟩ (.int .i32 (x 3))) base (.slice (some ⟨g, 0, none⟩) n cap) (L.set k x) := by
  have hn : n = L.length := by obtain ⟨_, _, e, _⟩ := GO.shape h; cases e; rfl
  subst hn
  have h0 : w.ownsRow base 26 4 (.slice (some ⟨g, 0, none⟩) L.length cap) L.length (L.flatMap vEnc) := h
  have h1 := (World.ownsRow.stored (World.ownsRow.stored (World.ownsRow.stored (World.ownsRow.stored h0 (k * 4) (.int .i32 (x 0))).1 (k * 4 + 1) (.int .i32 (x 1))).1 (k * 4 + 2) (.int .i32 (x 2))).1 (k * 4 + 3) (.int .i32 (x 3))).1
  unfold OV GO
  rw [List.length_set, ← flat_set4 x L k hk]
  exact h1
theorem OV.frozen {w : World} {base g n cap : Nat} {L : List (Nat → Int)} (h : OV w base (.slice (some ⟨g, 0, none⟩) n cap) L) (j : Nat) : w.frozen? ⟨g, j, none⟩ = false := by
  have hn : n = L.length := by obtain ⟨_, _, e, _⟩ := GO.shape h; cases e; rfl
  subst hn
  have h0 : w.ownsRow base 26 4 (.slice (some ⟨g, 0, none⟩) L.length cap) L.length (L.flatMap vEnc) := h
  exact World.ownsRow.frozenAt h0 j
theorem OV.other {w w' : World} {base : Nat} {v : Value} {L : List (Nat → Int)} {r : Nat} (h : OV w base v L) (hg : w.grownBy w' (some r)) (hr : ∀ b, v.ownBlock = some b → b ≠ r) : OV w' base v L := GO.keep h hg hr
theorem grown4 (w : World) (g i0 i1 i2 i3 : Nat) (a0 a1 a2 a3 : Value) : w.grownBy ((((w.setCell ⟨g, i0, none⟩ a0).setCell ⟨g, i1, none⟩ a1).setCell ⟨g, i2, none⟩ a2).setCell ⟨g, i3, none⟩ a3) (some g) :=
  (((grownBy_set w g i0 _).trans (grownBy_set _ g i1 _)).trans (grownBy_set _ g i2 _)).trans (grownBy_set _ g i3 _)
end Go.Proofs.Ytbhdloanlagddaa
