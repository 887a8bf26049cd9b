/-
  Vectors and pairs of vectors that come in: their numbers. What the dump lacks is left out.
-/
import Derived.Test.YtbhdloanlagddaaFr
import Derived.Test.YtbhdloanlagddaaVE
import Derived.Laws.IdiomArrays
namespace Go.Proofs.Ytbhdloanlagddaa
open Go.ChangeShapes Go.WideShapes Go.ChangeAt Go.RowKit

section
variable {H : Type} {enc : TypeId × Value → H}

theorem cells_fix : Try.prog.cellsOf 22 = 1 := by kernel_rfl
theorem cells_vec : Try.prog.cellsOf 26 = 4 := by kernel_rfl

theorem array4 {α : Type} {cs : Array α} (h : cs.size = 4) : ∃ c0 c1 c2 c3, cs = #[c0, c1, c2, c3] := by
  obtain ⟨l⟩ := cs
  match l, h with
  | [c0, c1, c2, c3], _ => exact ⟨c0, c1, c2, c3, rfl⟩
theorem array8 {α : Type} {cs : Array α} (h : cs.size = 8) : ∃ c0 c1 c2 c3 c4 c5 c6 c7, cs = #[c0, c1, c2, c3, c4, c5, c6, c7] := by
  obtain ⟨l⟩ := cs
  match l, h with
  | [c0, c1, c2, c3, c4, c5, c6, c7], _ => exact ⟨c0, c1, c2, c3, c4, c5, c6, c7, rfl⟩

/-- Four cells that read as a vector are four numbers. -/
theorem four_cells {W : World} {fuel : Nat} {c0 c1 c2 c3 : Value} {x : DataW H × List MemPlace} (h : DataW.trod enc Try.prog W 0 (fun _ => true) true fuel 26 [c0, c1, c2, c3] = some x) :
    ∃ a : Nat → Int, c0 = .int .i32 (a 0) ∧ c1 = .int .i32 (a 1) ∧ c2 = .int .i32 (a 2) ∧ c3 = .int .i32 (a 3) ∧ ∀ i, I32 (a i) := by
  obtain ⟨y0, y1, y2, y3, m, hx, hy0, hy1, hy2, hy3⟩ := trod_array4 Try.underlying26 cells_fix h
  obtain ⟨x0, e0, _, w0⟩ := DataW.trod_int Try.underlying22 hy0
  obtain ⟨x1, e1, _, w1⟩ := DataW.trod_int Try.underlying22 hy1
  obtain ⟨x2, e2, _, w2⟩ := DataW.trod_int Try.underlying22 hy2
  obtain ⟨x3, e3, _, w3⟩ := DataW.trod_int Try.underlying22 hy3
  simp at e0 e1 e2 e3
  exact ⟨v4 x0 x1 x2 x3, e0, e1, e2, e3, v4_i32 (bounds_i32 w0) (bounds_i32 w1) (bounds_i32 w2) (bounds_i32 w3)⟩

set_option maxRecDepth 100000 in
theorem open_vec {W : World} {base : Nat} {v : Value} {d : DataW H} {p : List MemPlace} (hv : Value.okWide Try.prog W .any base 26 v) (h : DataW.Trod enc Try.prog W 0 (fun _ => true) true 26 v d p) :
    ∃ a : Nat → Int, v = .agg #[.int .i32 (a 0), .int .i32 (a 1), .int .i32 (a 2), .int .i32 (a 3)] ∧ ∀ i, I32 (a i) := by
  obtain ⟨cs, rfl, hsz, _⟩ : ∃ cs, v = .agg cs ∧ cs.size = Try.prog.cellsOf 26 ∧ Row.okWide Try.prog W .any base 26 cs := by
    simpa [Value.okWide, Try.underlying26] using hv
  rw [cells_vec] at hsz
  obtain ⟨c0, c1, c2, c3, rfl⟩ := array4 hsz
  obtain ⟨fuel, hf⟩ := h
  obtain ⟨a, rfl, rfl, rfl, rfl, ha⟩ := four_cells hf
  exact ⟨a, rfl, ha⟩

end

/-- Where block b holds the pair of the vectors x and y. -/
theorem Blk.pair {w : World} {b : Nat} {x y : Nat → Int} {t : TypeId} (h : Blk w b #[.int .i32 (x 0), .int .i32 (x 1), .int .i32 (x 2), .int .i32 (x 3), .int .i32 (y 0), .int .i32 (y 1), .int .i32 (y 2), .int .i32 (y 3)] t) :
    (w.cell? ⟨b, 0, none⟩ = some (.int .i32 (x 0)) ∧ w.cell? ⟨b, 1, none⟩ = some (.int .i32 (x 1)) ∧ w.cell? ⟨b, 2, none⟩ = some (.int .i32 (x 2)) ∧ w.cell? ⟨b, 3, none⟩ = some (.int .i32 (x 3))) ∧
    w.cell? ⟨b, 4, none⟩ = some (.int .i32 (y 0)) ∧ w.cell? ⟨b, 5, none⟩ = some (.int .i32 (y 1)) ∧ w.cell? ⟨b, 6, none⟩ = some (.int .i32 (y 2)) ∧ w.cell? ⟨b, 7, none⟩ = some (.int .i32 (y 3)) :=
  ⟨⟨h.cell rfl, h.cell rfl, h.cell rfl, h.cell rfl⟩, h.cell rfl, h.cell rfl, h.cell rfl, h.cell rfl⟩
end Go.Proofs.Ytbhdloanlagddaa
