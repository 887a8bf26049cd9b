/-
  Vectors that come in: their numbers.
-/
import Derived.Test.YtijkkhnhejadgaaFr
import Derived.Test.YtijkkhnhejadgaaPW
import Derived.Laws.IdiomArrays
namespace Go.Proofs.Ytijkkhnhejadgaa
open Go.ChangeShapes Go.WideShapes Go.ChangeAt Go.RowKit

theorem v4_i32 {x0 x1 x2 x3 : Int} (h0 : I32 x0) (h1 : I32 x1) (h2 : I32 x2) (h3 : I32 x3) (i : Nat) : I32 (v4 x0 x1 x2 x3 i) := by
  match i with
  | 0 => exact h0
  | 1 => exact h1
  | 2 => exact h2
  | 3 => exact h3
  | n + 4 =>
    show I32 0
    unfold I32
    omega

section
variable {H : Type} {enc : TypeId × Value → H}

theorem cells_fix : Try.prog.cellsOf 22 = 1 := by kernel_rfl
theorem cells_vec : Try.prog.cellsOf 35 = 4 := by kernel_rfl

theorem array4 {α : Type} {cs : Array α} (h : cs.size = 4) : ∃ c0 c1 c2 c3, cs = #[c0, c1, c2, c3] := by
  obtain ⟨l⟩ := cs
  match l, h with
  | [c0, c1, c2, c3], _ => exact ⟨c0, c1, c2, c3, rfl⟩

/-- Four cells that read as a vector are four numbers. -/
theorem four_cells {W : World} {fuel : Nat} {c0 c1 c2 c3 : Value} {x : DataW H × List MemPlace} (h : DataW.trod enc Try.prog W 0 (fun _ => true) true fuel 35 [c0, c1, c2, c3] = some x) :
    ∃ a : Nat → Int, c0 = .int .i32 (a 0) ∧ c1 = .int .i32 (a 1) ∧ c2 = .int .i32 (a 2) ∧ c3 = .int .i32 (a 3) ∧ ∀ i, I32 (a i) := by
  obtain ⟨y0, y1, y2, y3, m, hx, hy0, hy1, hy2, hy3⟩ := trod_array4 Try.underlying35 cells_fix h
  obtain ⟨x0, e0, _, w0⟩ := DataW.trod_int Try.underlying22 hy0
  obtain ⟨x1, e1, _, w1⟩ := DataW.trod_int Try.underlying22 hy1
  obtain ⟨x2, e2, _, w2⟩ := DataW.trod_int Try.underlying22 hy2
  obtain ⟨x3, e3, _, w3⟩ := DataW.trod_int Try.underlying22 hy3
  simp at e0 e1 e2 e3
  exact ⟨v4 x0 x1 x2 x3, e0, e1, e2, e3, v4_i32 (bounds_i32 w0) (bounds_i32 w1) (bounds_i32 w2) (bounds_i32 w3)⟩

theorem open_vec {W : World} {base : Nat} {v : Value} {d : DataW H} {p : List MemPlace} (hv : Value.okWide Try.prog W .any base 35 v) (h : DataW.Trod enc Try.prog W 0 (fun _ => true) true 35 v d p) :
    ∃ a : Nat → Int, v = .agg #[.int .i32 (a 0), .int .i32 (a 1), .int .i32 (a 2), .int .i32 (a 3)] ∧ ∀ i, I32 (a i) := by
  obtain ⟨cs, rfl, hsz, _⟩ : ∃ cs, v = .agg cs ∧ cs.size = Try.prog.cellsOf 35 ∧ Row.okWide Try.prog W .any base 35 cs := by
    simpa [Value.okWide, Try.underlying35] using hv
  rw [cells_vec] at hsz
  obtain ⟨c0, c1, c2, c3, rfl⟩ := array4 hsz
  obtain ⟨fuel, hf⟩ := h
  obtain ⟨a, rfl, rfl, rfl, rfl, ha⟩ := four_cells hf
  exact ⟨a, rfl, ha⟩
end
end Go.Proofs.Ytijkkhnhejadgaa
