/-
  What is done with names, by the program and by the document: the walk of does.
-/
import Derived.Test.YthdjdknhjhkngaaNI
import Derived.Test.YthdjdknhjhkngaaNJ
import Derived.Deep.RegionHeld3
import Derived.Deep.CutRange
namespace Go.Proofs.Ythdjdknhjhkngaa
open Go.RowKit

/-- All but the blocks B and Y lie as they lay. -/
structure Tw (B Y : Nat) (w w' : World) : Prop where
  os : w'.os = w.os
  tape : w'.tape = w.tape
  output : w'.output = w.output
  size : w.heap.size ≤ w'.heap.size
  block : ∀ i, i < w.heap.size → i ≠ B → i ≠ Y → w'.heap[i]? = w.heap[i]?
theorem Tw.refl (B Y : Nat) (w : World) : Tw B Y w w := ⟨rfl, rfl, rfl, Nat.le_refl _, fun _ _ _ _ => rfl⟩
theorem Tw.trans {B Y : Nat} {a b c : World} (h : Tw B Y a b) (k : Tw B Y b c) : Tw B Y a c :=
  ⟨k.os.trans h.os, k.tape.trans h.tape, k.output.trans h.output, Nat.le_trans h.size k.size, fun i hi h1 h2 => (k.block i (Nat.lt_of_lt_of_le hi h.size) h1 h2).trans (h.block i hi h1 h2)⟩
theorem Tw.left {B Y : Nat} {a b : World} (h : a.grownBy b (some B)) : Tw B Y a b := ⟨h.os, h.tape, h.output, h.size, fun i hi h1 _ => h.block i hi (by simpa using h1)⟩
theorem Tw.right {B Y : Nat} {a b : World} (h : a.grownBy b (some Y)) : Tw B Y a b := ⟨h.os, h.tape, h.output, h.size, fun i hi _ h2 => h.block i hi (by simpa using h2)⟩
theorem Tw.ext {B Y : Nat} {a b : World} (h : Ext a b) : Tw B Y a b := ⟨h.os, h.tape, h.output, h.size, fun i hi _ _ => h.block i hi⟩
theorem Tw.blk {B Y : Nat} {a b : World} {r : Nat} {cs : Array Value} {t : TypeId} (h : Tw B Y a b) (hr : Blk a r cs t) (h1 : r ≠ B) (h2 : r ≠ Y) : Blk b r cs t := (h.block r hr.lt h1 h2).trans hr
theorem Ext.tw {B Y : Nat} {a b c : World} (h : Ext a b) (k : Tw B Y b c) (h1 : a.heap.size ≤ B) (h2 : a.heap.size ≤ Y) : Ext a c :=
  ⟨k.os.trans h.os, k.tape.trans h.tape, k.output.trans h.output, Nat.le_trans h.size k.size, fun i hi => (k.block i (Nat.lt_of_lt_of_le hi h.size) (by omega) (by omega)).trans (h.block i hi)⟩

theorem Tw.row {B Y : Nat} (w : World) (cs : Array Value) : Tw B Y w (w.setRow Y cs) := ⟨rfl, rfl, rfl, by simp, fun i _ _ h2 => setRow_other w Y i cs h2⟩

theorem Tw.set {B Y : Nat} {w wr : World} (h : Tw B Y w wr) {g : Nat} (hg : w.heap.size ≤ g) (k : Nat) (v : Value) : Tw B Y w (wr.setCell ⟨g, k, none⟩ v) :=
  ⟨h.os, h.tape, h.output, by simpa using h.size, fun i hi h1 h2 => (heap_setCell_other _ _ _ _ (by simp; omega)).trans (h.block i hi h1 h2)⟩

/-- What becomes of names by an op. -/
def opS (s : Nat → Int) (K N : Int) : Nat → Int := if kindI K = 0 then setL s (genL s (genN s N)) else if kindI K = 1 then bndS s N else delS s N
def opB (b K N : Int) : Int := if kindI K = 0 then b else if kindI K = 1 then bndB b N else delB b N
theorem Sane.op {s : Nat → Int} {b : Int} (h : Sane s b) (K N : Int) : Sane (opS s K N) (opB b K N) := by
  unfold opS opB
  split
  · exact h.gen _
  · split
    · exact h.bnd N
    · exact h.dele N

end Go.Proofs.Ythdjdknhjhkngaa
