/-
  Codes: whole instructions moved in memory, rows of instructions that are read. What the dump lacks is left out.
-/
import Derived.Test.YtfoffnbkfnbglaaCD
import Derived.Laws.CopyOwn
import Derived.Deep.MidRow
import Derived.Deep.WholeRow
import Derived.Great.BuildSlice
namespace Go.Proofs.Ytfoffnbkfnbglaa
open Go.RowKit
set_option linter.unusedVariables false
set_option linter.unusedSimpArgs false

theorem Blk.rowC {w : World} {b : Nat} {cs cs' : Array Value} {t : TypeId} (h : Blk w b cs t) : Blk (w.setRow b cs') b cs' t := setRow_heap w b cs cs' t (0, 0) h
theorem Blk.rowO {w : World} {b r : Nat} {cs cs' : Array Value} {t : TypeId} (h : Blk w b cs t) (hne : b ≠ r) : Blk (w.setRow r cs') b cs t := (setRow_other w r b cs' hne).trans h
theorem extRow {w w1 : World} {b : Nat} {cs : Array Value} (h : Ext w w1) (hb : w.heap.size ≤ b) : Ext w (w1.setRow b cs) := below_setRow h hb cs
theorem extSet {w w1 : World} {b i : Nat} {v : Value} (h : Ext w w1) (hb : w.heap.size ≤ b) : Ext w (w1.setCell ⟨b, i, none⟩ v) := h.grown (grownBy_set w1 b i v) h.size (fun k e => by cases e; exact hb)
theorem size16 : (Try.prog.info? 39).map (·.size) = some 16 := by kernel_rfl
theorem size4 : (Try.prog.info? 37).map (·.size) = some 4 := by kernel_rfl
theorem sizeV : (Try.prog.info? 36).map (·.size) = some 4 := by kernel_rfl
theorem size6 : (Try.prog.info? 26).map (·.size) = some 6 := by kernel_rfl

section
variable {P : Program} {w : World} {ops : Array Oper} {rest : List Oper} {o : Oper} {a : Act} {Q : Exit → Act → World → Prop}
/-- A whole value laid into the block that was made last. -/
theorem wpList_storeLast (hgd : o.guard = none) (ty : TypeId) (x y : Operand) (ho : o.op = .store ty x y) (old : Array Value) (g : Nat) (hgg : w.heap.size = g) (hx : a.eval x = .pointer (some ⟨g, 0, none⟩)) (cells : Array Value) (hy : a.eval y = .agg cells)
    (n : Nat) (hi : (P.info? ty).map (·.size) = some n) (hn : cells.size = n) (hold : old.size = n) (h1 : cells.all (·.oneCell') = true) (h : wpList P ops Q rest (a.put o.dst undef) (w.alloc (.cells cells ty))) :
    wpList P ops Q (o :: rest) a (w.alloc (.cells old ty)) := by
  subst hgg
  refine wpList_store_row hgd ty x y ho w.heap.size cells hx hy ty old (heap_alloc_last w _) (by rw [hi, hn]) (by omega) h1 ?_
  rw [World.setRow_alloc_new]
  exact h
theorem results_cellTmp {fn : Func} {p q : Tmp} {ty : TypeId} (h : fn.results = #[.cell p ty, .tmp q]) (tmps : Array Value) (w : World) (g : Nat) (t : TypeId) (cs : Array Value) (d : TypeDesc)
    (hp : tmps.getD p undef = .pointer (some ⟨g, 0, none⟩)) (v : Value) (hv : tmps.getD q undef = v) (hg : Blk w g cs t)
    (hu : P.underlying ty = some d) (hd : (match d with | .struct _ | .array _ _ => true | _ => false) = true) (hi : (P.info? ty).map (·.size) = some cs.size) :
    (results fn tmps).run P w = .ok (.tuple #[.agg cs, v]) w := by
  have hp' : tmps[p]?.getD undef = .pointer (some ⟨g, 0, none⟩) := by simpa using hp
  have hv' : tmps[q]?.getD undef = v := by simpa using hv
  simp [results, h, hp', hv', asAddr, run_loadVar_row w g t ty cs (0, 0) d hg hu hd hi]
end
end Go.Proofs.Ytfoffnbkfnbglaa
