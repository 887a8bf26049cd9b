/-
  Plain facts on blocks of cells in memory (structs behind a pointer, boxed values): what a block holds, and that it stays so while other blocks turn. Nothing here speaks of the program.
-/
import Derived.Test.YtbhdloanlagddaaLem
namespace Go.Proofs.Ytbhdloanlagddaa
open Go.RowKit

/-- Block b holds the cells cs, none of them frozen. -/
def Blk (w : World) (b : Nat) (cs : Array Value) (t : TypeId) : Prop := w.heap[b]? = some (.cells cs t (0, 0))

section
variable {w w' : World} {b : Nat} {cs : Array Value} {t : TypeId}
theorem Blk.cell (h : Blk w b cs t) {i : Nat} {v : Value} (hv : cs[i]? = some v) : w.cell? ⟨b, i, none⟩ = some v := by
  simp only [World.cell?, show w.heap[b]? = some (.cells cs t (0, 0)) from h]
  simpa using hv
theorem Blk.free (h : Blk w b cs t) (i : Nat) : w.frozen? ⟨b, i, none⟩ = false := by
  simp [World.frozen?, show w.heap[b]? = some (.cells cs t (0, 0)) from h]
theorem Blk.lt (h : Blk w b cs t) : b < w.heap.size := (Array.getElem?_eq_some_iff.1 (show w.heap[b]? = some (.cells cs t (0, 0)) from h)).1
theorem Blk.ext (h : Blk w b cs t) (hx : Ext w w') : Blk w' b cs t := (hx.block b h.lt).trans h
theorem Blk.grown {r : Nat} (h : Blk w b cs t) (hg : w.grownBy w' (some r)) (hne : b ≠ r) : Blk w' b cs t := (hg.block b h.lt (by simpa using hne)).trans h
theorem Blk.set (h : Blk w b cs t) (i : Nat) (v : Value) : Blk (w.setCell ⟨b, i, none⟩ v) b (cs.setIfInBounds i v) t := heap_setCell_same w b i cs t v h
theorem Blk.other {r : Nat} (h : Blk w b cs t) (i : Nat) (v : Value) (hne : b ≠ r) : Blk (w.setCell ⟨r, i, none⟩ v) b cs t := (heap_setCell_other w ⟨r, i, none⟩ b v hne).trans h
theorem Blk.new (w : World) (cs : Array Value) (t : TypeId) : Blk (w.alloc (.cells cs t)) w.heap.size cs t := heap_alloc_new w _
theorem Blk.alloc (h : Blk w b cs t) (o : Obj) : Blk (w.alloc o) b cs t := h.ext ((Ext.refl w).alloc o)
theorem Blk.drewN (h : Blk w b cs t) (n : Nat) : Blk (w.drewN n) b cs t := h
end

theorem below_grown {B : Nat} {w w1 w2 : World} {rb : Nat} (h : Below B w w1) (hg : w1.grownBy w2 (some rb)) (hB : B ≤ w1.heap.size) (hr : B ≤ rb) : Below B w w2 :=
  h.grown hg hB (fun k e => by cases e; exact hr)
theorem grownBy_set (w : World) (b i : Nat) (v : Value) : w.grownBy (w.setCell ⟨b, i, none⟩ v) (some b) :=
  ⟨rfl, rfl, rfl, by simp, fun k _ hk => heap_setCell_other _ _ _ _ (by simpa using hk)⟩
/-- A row of numbers does not lie in a block that has another cell at each place. -/
theorem Row.grown {k : IntKind} {w w' : World} {v : Value} {xs : List Int} {r : Nat} (hr : Row k w v xs) (hg : w.grownBy w' (some r)) (hne : ∀ i n, w.cell? ⟨r, i, none⟩ ≠ some (.int k n)) : Row k w' v xs := by
  rcases hr with hr | ⟨h0, b, off, cap, rfl, hl, hm, hc⟩
  · exact .inl hr
  · have hb : b ≠ r := by
      intro e
      subst e
      exact hne _ _ (hc 0 (List.length_pos_iff.2 h0))
    refine .inr ⟨h0, b, off, cap, rfl, hl, hm, fun i hi => ?_⟩
    rw [World.cell?_of_block (w := w) (hg.block b (World.block_lt_of_cell? w _ (hc i hi)) (by simpa using hb))]
    exact hc i hi
/-- The cells of a block, none of which is a number of kind k. -/
theorem Blk.no {w : World} {b : Nat} {cs : Array Value} {t : TypeId} {k : IntKind} (h : Blk w b cs t) (hn : ∀ u ∈ cs.toList, ∀ n, u ≠ .int k n) : ∀ i n, w.cell? ⟨b, i, none⟩ ≠ some (.int k n) := by
  intro i n he
  simp only [World.cell?, show w.heap[b]? = some (.cells cs t (0, 0)) from h] at he
  simp at he
  obtain ⟨hi, he⟩ := Array.getElem?_eq_some_iff.1 he
  exact hn _ (by rw [← he]; simp) n rfl
end Go.Proofs.Ytbhdloanlagddaa
