/-
  Types: what is held while a region draws its order; what comes of an operator ahead of a type. What the dump lacks is left out.
-/
import Derived.Test.YtcfgooeljmfjoaaKC
import Derived.Deep.DeepCutAuto
namespace Go.Proofs.Ytcfgooeljmfjoaa
open Go.RowKit
set_option linter.unusedVariables false
set_option linter.unusedSimpArgs false

/-- Types lie in their blocks, there is a block for the result, and nothing that was there has turned. -/
def Reg (w0 : World) (l : List (Nat × Ty)) (R : Nat) (wx : World) : Prop :=
  Ext w0 wx ∧ (∀ p ∈ l, Blk wx p.1 #[.int .i64 (p.2).1, .int .i64 (p.2).2] 25) ∧ (∃ x y, Blk wx R #[x, y] 25) ∧ w0.heap.size ≤ R ∧ ∀ p ∈ l, p.1 ≠ R
section
variable {w0 w1 w2 : World} {l : List (Nat × Ty)} {R : Nat}
theorem Reg.ext (hx : Ext w1 w2) (h : Reg w0 l R w1) : Reg w0 l R w2 := by
  obtain ⟨h0, h1, ⟨x, y, h2⟩, h3, h4⟩ := h
  exact ⟨h0.trans hx, fun p hp => (h1 p hp).ext hx, ⟨x, y, h2.ext hx⟩, h3, h4⟩
theorem Reg.drew (h : Reg w0 l R w1) : Reg w0 l R w1.drew := h.ext ((Ext.refl _).drew)
theorem Reg.put (h : Reg w0 l R w1) (p q : Value) : Reg w0 l R ((w1.setCell ⟨R, 0, none⟩ p).setCell ⟨R, 1, none⟩ q) := by
  obtain ⟨h0, h1, ⟨x, y, h2⟩, h3, h4⟩ := h
  exact ⟨ext_set2 h0 h3, fun z hz => ((h1 z hz).other 0 p (h4 z hz)).other 1 q (h4 z hz), ⟨p, q, h2.put2 p q⟩, h3, h4⟩
theorem Reg.at (h : Reg w0 l R w1) (b : Nat) (t : Ty) (hm : (b, t) ∈ l) : w1.cell? ⟨b, 0, none⟩ = some (.int .i64 t.1) ∧ w1.cell? ⟨b, 1, none⟩ = some (.int .i64 t.2) := (h.2.1 (b, t) hm).two
theorem Reg.res (h : Reg w0 l R w1) : ∃ x y, w1.cell? ⟨R, 0, none⟩ = some x ∧ w1.cell? ⟨R, 1, none⟩ = some y ∧ w1.frozen? ⟨R, 0, none⟩ = false ∧ w1.frozen? ⟨R, 1, none⟩ = false := by
  obtain ⟨h0, h1, ⟨x, y, h2⟩, h3, h4⟩ := h
  exact ⟨x, y, h2.two.1, h2.two.2, h2.free2.1, h2.free2.2⟩
theorem Reg.fin (h : Reg w0 l R w1) (p q : Value) : Blk ((w1.setCell ⟨R, 0, none⟩ p).setCell ⟨R, 1, none⟩ q) R #[p, q] 25 ∧ Ext w0 ((w1.setCell ⟨R, 0, none⟩ p).setCell ⟨R, 1, none⟩ q) := by
  obtain ⟨h0, h1, ⟨x, y, h2⟩, h3, h4⟩ := h
  exact ⟨h2.put2 p q, ext_set2 h0 h3⟩
end

/-- gen -/
theorem eqT_true {a c : Ty} (h : eqT a c = true) : (a.1 == c.1) = true ∧ (a.2 == c.2) = true := by
  unfold eqT at h
  simpa using h
theorem reg1 (w : World) (a : Ty) : Reg w [(w.heap.size, a)] (w.heap.size + 1) ((w.alloc (.cells #[.int .i64 (a).1, .int .i64 (a).2] 25)).alloc (.cells #[.int .i64 0, .int .i64 0] 25)) := by
  refine ⟨((Ext.refl w).alloc _).alloc _, ?_, ⟨_, _, Blk.at (by simp)⟩, by omega, ?_⟩
  · intro p hp
    obtain rfl : p = (w.heap.size, a) := by simpa using hp
    exact (Blk.at rfl).alloc _
  · intro p hp
    obtain rfl : p = (w.heap.size, a) := by simpa using hp
    exact (by simp : w.heap.size ≠ w.heap.size + 1)
theorem reg2 (w : World) (a c : Ty) : Reg w [(w.heap.size, a), (w.heap.size + 1, c)] (w.heap.size + 1 + 1) (((w.alloc (.cells #[.int .i64 (a).1, .int .i64 (a).2] 25)).alloc (.cells #[.int .i64 (c).1, .int .i64 (c).2] 25)).alloc (.cells #[.int .i64 0, .int .i64 0] 25)) := by
  refine ⟨(((Ext.refl w).alloc _).alloc _).alloc _, ?_, ⟨_, _, Blk.at (by simp)⟩, by omega, ?_⟩
  · intro p hp
    simp only [List.mem_cons, List.not_mem_nil, or_false] at hp
    rcases hp with rfl | rfl
    · exact ((Blk.at rfl).alloc _).alloc _
    · exact (Blk.at (by simp)).alloc _
  · intro p hp
    simp only [List.mem_cons, List.not_mem_nil, or_false] at hp
    rcases hp with rfl | rfl <;> dsimp only <;> omega
theorem reg3 (w : World) (c a d : Ty) : Reg w [(w.heap.size, c), (w.heap.size + 1, a), (w.heap.size + 1 + 1, d)] (w.heap.size + 1 + 1 + 1) ((((w.alloc (.cells #[.int .i64 (c).1, .int .i64 (c).2] 25)).alloc (.cells #[.int .i64 (a).1, .int .i64 (a).2] 25)).alloc (.cells #[.int .i64 (d).1, .int .i64 (d).2] 25)).alloc (.cells #[.int .i64 0, .int .i64 0] 25)) := by
  refine ⟨((((Ext.refl w).alloc _).alloc _).alloc _).alloc _, ?_, ⟨_, _, Blk.at (by simp)⟩, by omega, ?_⟩
  · intro p hp
    simp only [List.mem_cons, List.not_mem_nil, or_false] at hp
    rcases hp with rfl | rfl | rfl
    · exact (((Blk.at rfl).alloc _).alloc _).alloc _
    · exact ((Blk.at (by simp)).alloc _).alloc _
    · exact (Blk.at (by simp)).alloc _
  · intro p hp
    simp only [List.mem_cons, List.not_mem_nil, or_false] at hp
    rcases hp with rfl | rfl | rfl <;> dsimp only <;> omega

end Go.Proofs.Ytcfgooeljmfjoaa
