/-
  A region that draws its order, whose operations only read, and whose callees read and make new blocks: one walk of the text's order serves every order. Nothing here speaks of the program.
-/
import Derived.Test.YtmigakbccmkjoabLem
import Derived.BigQuiet
namespace Go.Proofs.Ytmigakbccmkjoab
open Go.RowKit

/-- The worlds in which all that lay in w lies as it did. -/
def Later (w : World) : Type := { w' : World // Ext w w' }
def Later.w {w : World} (x : Later w) : World := x.1
theorem Later.ext {w : World} (x : Later w) : Ext w x.w := x.2
theorem Later.some (w : World) : Nonempty (Later w) := ⟨⟨w, Ext.refl w⟩⟩

theorem wp_region_later {P : Program} {id : Nat} {Q : Exit → Act → World → Prop} {a : Act} {w : World} {l : List Oper} (hm : P.follows .mixedOrders = true) (hB : Region.lexB .any l.toArray = true)
    (h : wpQuiet P l.toArray (fun w' => ∃ x : Later w, w' = x.w) (fun a' => ∀ w', (∃ x : Later w, w' = x.w) → Q .normal a' w') l a) : (Code.region id l.toArray true).wp P Q a w :=
  wp_region_quiet (C := fun w' => ∃ x : Later w, w' = x.w) hm hB ⟨⟨w.drew, (Ext.refl w).drew⟩, rfl⟩ (by simpa using h)

theorem calls_later {P : Program} {f : FuncId} {args : Array Value} {w : World} {x : Later w} {v : Value} (h : Calls P f args x.w fun e w' => e = .returned v ∧ Ext x.w w') :
    Calls P f args x.w fun e w'' => e = .returned v ∧ ∃ y : Later w, w'' = y.w :=
  h.mono fun _ w' ⟨he, hx⟩ => ⟨he, ⟨w', x.ext.trans hx⟩, rfl⟩

/-- What a cell holds in w it holds later. -/
theorem cell_later {w : World} {p : Addr} {v : Value} (h : w.cell? p = some v) (x : Later w) : x.w.cell? p = some v := by
  rw [x.ext.cell (p := p) (World.block_lt_of_cell? w p h)]
  exact h
end Go.Proofs.Ytmigakbccmkjoab
