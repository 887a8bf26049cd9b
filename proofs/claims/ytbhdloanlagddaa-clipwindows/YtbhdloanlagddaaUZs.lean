/-
  What holds as long as a store has not come up, for regions that draw. Nothing here speaks of the program.
-/
import Derived.Test.YtbhdloanlagddaaUZ
namespace Go.Proofs.Ytbhdloanlagddaa
open Go.RowKit
set_option linter.unusedVariables false
set_option linter.unusedSimpArgs false

/-- What holds as long as a store has not come up. -/
def SL (s1 s2 s3 : Nat) (F1 F2 F3 : World → Prop) (L : Array Bool) (w : World) : Prop := (L.getD s1 true = false → F1 w) ∧ (L.getD s2 true = false → F2 w) ∧ (L.getD s3 true = false → F3 w)
theorem SL.ind {s1 s2 s3 i : Nat} {F1 F2 F3 : World → Prop} (h1 : i ≠ s1) (h2 : i ≠ s2) (h3 : i ≠ s3) : ∀ L w, SL s1 s2 s3 F1 F2 F3 (L.setIfInBounds i true) w → SL s1 s2 s3 F1 F2 F3 L w := fun L w h =>
  ⟨fun e => h.1 (by rw [getD_set_ne true h1]; exact e), fun e => h.2.1 (by rw [getD_set_ne true h2]; exact e), fun e => h.2.2 (by rw [getD_set_ne true h3]; exact e)⟩
theorem SL.all {s1 s2 s3 : Nat} {F1 F2 F3 : World → Prop} {L : Array Bool} {w : World} (h1 : F1 w) (h2 : F2 w) (h3 : F3 w) : SL s1 s2 s3 F1 F2 F3 L w := ⟨fun _ => h1, fun _ => h2, fun _ => h3⟩
theorem SL.get1 {s1 s2 s3 : Nat} {F1 F2 F3 : World → Prop} : ∀ L w, (∀ s ∈ [s1], L.getD s true = false) → SL s1 s2 s3 F1 F2 F3 L w → F1 w := fun L w h hS => hS.1 (h s1 (by simp))
theorem SL.get2 {s1 s2 s3 : Nat} {F1 F2 F3 : World → Prop} : ∀ L w, (∀ s ∈ [s2], L.getD s true = false) → SL s1 s2 s3 F1 F2 F3 L w → F2 w := fun L w h hS => hS.2.1 (h s2 (by simp))
theorem SL.get3 {s1 s2 s3 : Nat} {F1 F2 F3 : World → Prop} : ∀ L w, (∀ s ∈ [s3], L.getD s true = false) → SL s1 s2 s3 F1 F2 F3 L w → F3 w := fun L w h hS => hS.2.2 (h s3 (by simp))
theorem cell_ne (w : World) (g i j : Nat) (v : Value) (h : j ≠ i) : (w.setCell ⟨g, i, none⟩ v).cell? ⟨g, j, none⟩ = w.cell? ⟨g, j, none⟩ := by
  apply World.cell?_setCell_other
  intro e
  cases e
  exact h rfl
theorem froz_set (w : World) (p q : Addr) (v : Value) : (w.setCell p v).frozen? q = w.frozen? q := World.frozen?_setCell _ _ _ _
theorem getD_self (L : Array Bool) (i : Nat) : (L.setIfInBounds i true).getD i true = true := by
  rcases Nat.lt_or_ge i L.size with h | h
  · simp [h]
  · simp [Array.getElem?_eq_none (by simpa using h : (L.setIfInBounds i true).size ≤ i)]
theorem SL.mk1 {s1 s2 s3 : Nat} {F1 F2 F3 : World → Prop} {L : Array Bool} {w : World} (b1 : L.getD s1 true = true) (h2 : F2 w) (h3 : F3 w) : SL s1 s2 s3 F1 F2 F3 L w := ⟨fun e => (by rw [b1] at e; cases e), fun _ => h2, fun _ => h3⟩
theorem SL.mk2 {s1 s2 s3 : Nat} {F1 F2 F3 : World → Prop} {L : Array Bool} {w : World} (b1 : L.getD s1 true = true) (b2 : L.getD s2 true = true) (h3 : F3 w) : SL s1 s2 s3 F1 F2 F3 L w := ⟨fun e => (by rw [b1] at e; cases e), fun e => (by rw [b2] at e; cases e), fun _ => h3⟩
theorem SL.mk3 {s1 s2 s3 : Nat} {F1 F2 F3 : World → Prop} {L : Array Bool} {w : World} (b1 : L.getD s1 true = true) (b2 : L.getD s2 true = true) (b3 : L.getD s3 true = true) : SL s1 s2 s3 F1 F2 F3 L w := ⟨fun e => (by rw [b1] at e; cases e), fun e => (by rw [b2] at e; cases e), fun e => (by rw [b3] at e; cases e)⟩
end Go.Proofs.Ytbhdloanlagddaa
