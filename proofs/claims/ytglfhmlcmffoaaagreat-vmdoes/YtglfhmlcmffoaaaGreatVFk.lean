/-
  Operations and three vectors that come in: what they hold.
-/
import Derived.Test.YtglfhmlcmffoaaaGreatFrJ
namespace Go.Proofs.YtglfhmlcmffoaaaGreat
open Go.ChangeShapes Go.WideShapes Go.ChangeAt Go.RowKit
set_option linter.unusedVariables false
set_option linter.unusedSimpArgs false

section
variable {H : Type} {enc : TypeId × Value → H}
theorem cells_intW : Tryz.prog.cellsOf 3 = 1 := by kernel_rfl
theorem cells_work : Tryz.prog.cellsOf 52 = 3 := by kernel_rfl
theorem arr3 {α : Type} {cs : Array α} (h : cs.size = 3) : ∃ c0 c1 c2, cs = #[c0, c1, c2] := by
  obtain ⟨l⟩ := cs
  match l, h with
  | [c0, c1, c2], _ => exact ⟨c0, c1, c2, rfl⟩
set_option maxRecDepth 100000 in
theorem open_work {W : World} {base : Nat} {v : Value} {d : DataW H} {p : List MemPlace} (hv : Value.okWide Tryz.prog W .any base 52 v) (h : DataW.Trod enc Tryz.prog W 0 (fun _ => true) true 52 v d p) :
    ∃ x y z : Int, v = .agg #[.int .i64 x, .int .i64 y, .int .i64 z] ∧ I64 x ∧ I64 y ∧ I64 z := by
  obtain ⟨cs, rfl, hsz⟩ := okWide_struct Tryz.underlying52 hv
  rw [cells_work] at hsz
  obtain ⟨c0, c1, c2, rfl⟩ := arr3 hsz
  obtain ⟨fuel, hf⟩ := h
  have hf2 : DataW.trod enc Tryz.prog W 0 (fun _ => true) true fuel 52 [c0, c1, c2] = some (d, p) := by simpa [Value.cells] using hf
  obtain ⟨xs, n, _, _, hl, hlen, hfs⟩ := DataW.trod_struct Tryz.underlying52 hf2
  match xs, hlen with
  | [y0, y1, y2], _ =>
    have t0 : DataW.trod enc Tryz.prog W 0 (fun _ => true) true n 3 [c0] = some y0 := by simpa [cells_intW] using hfs 0 _ rfl
    have t1 : DataW.trod enc Tryz.prog W 0 (fun _ => true) true n 3 [c1] = some y1 := by simpa [cells_intW] using hfs 1 _ rfl
    have t2 : DataW.trod enc Tryz.prog W 0 (fun _ => true) true n 3 [c2] = some y2 := by simpa [cells_intW] using hfs 2 _ rfl
    obtain ⟨a0, e0, _, k0⟩ := DataW.trod_int Tryz.underlying3 t0
    obtain ⟨a1, e1, _, k1⟩ := DataW.trod_int Tryz.underlying3 t1
    obtain ⟨a2, e2, _, k2⟩ := DataW.trod_int Tryz.underlying3 t2
    simp only [List.cons.injEq, and_true] at e0 e1 e2
    subst e0 e1 e2
    exact ⟨a0, a1, a2, rfl, bounds_i64 k0, bounds_i64 k1, bounds_i64 k2⟩
theorem cells_v3 : Tryz.prog.cellsOf 53 = 12 := by kernel_rfl
theorem cells_v1 : Tryz.prog.cellsOf 28 = 4 := by kernel_rfl
theorem arr12 {α : Type} {cs : Array α} (h : cs.size = 12) : ∃ c0 c1 c2 c3 c4 c5 c6 c7 c8 c9 c10 c11, cs = #[c0, c1, c2, c3, c4, c5, c6, c7, c8, c9, c10, c11] := by
  obtain ⟨l⟩ := cs
  match l, h with
  | [c0, c1, c2, c3, c4, c5, c6, c7, c8, c9, c10, c11], _ => exact ⟨c0, c1, c2, c3, c4, c5, c6, c7, c8, c9, c10, c11, rfl⟩
set_option maxRecDepth 100000 in
theorem open_vec3 {W : World} {base : Nat} {v : Value} {d : DataW H} {p : List MemPlace} (hv : Value.okWide Tryz.prog W .any base 53 v) (h : DataW.Trod enc Tryz.prog W 0 (fun _ => true) true 53 v d p) :
    ∃ a b c : Nat → Int, v = .agg #[.int .i32 (a 0), .int .i32 (a 1), .int .i32 (a 2), .int .i32 (a 3), .int .i32 (b 0), .int .i32 (b 1), .int .i32 (b 2), .int .i32 (b 3), .int .i32 (c 0), .int .i32 (c 1), .int .i32 (c 2), .int .i32 (c 3)] ∧ (∀ i, I32 (a i)) ∧ (∀ i, I32 (b i)) ∧ ∀ i, I32 (c i) := by
  obtain ⟨cs, rfl, hsz, _⟩ : ∃ cs, v = .agg cs ∧ cs.size = Tryz.prog.cellsOf 53 ∧ Row.okWide Tryz.prog W .any base 53 cs := by
    simpa [Value.okWide, Tryz.underlying53] using hv
  rw [cells_v3] at hsz
  obtain ⟨c0, c1, c2, c3, c4, c5, c6, c7, c8, c9, c10, c11, rfl⟩ := arr12 hsz
  obtain ⟨fuel, hf⟩ := h
  have hf2 : DataW.trod enc Tryz.prog W 0 (fun _ => true) true fuel 53 [c0, c1, c2, c3, c4, c5, c6, c7, c8, c9, c10, c11] = some (d, p) := by simpa [Value.cells] using hf
  obtain ⟨xs, n, _, _, hl, hlen, hfs⟩ := DataW.trod_array Tryz.underlying53 hf2
  match xs, hlen with
  | [y0, y1, y2], _ =>
    have t0 : DataW.trod enc Tryz.prog W 0 (fun _ => true) true n 28 [c0, c1, c2, c3] = some y0 := by simpa [cells_v1] using hfs 0 (by omega)
    have t1 : DataW.trod enc Tryz.prog W 0 (fun _ => true) true n 28 [c4, c5, c6, c7] = some y1 := by simpa [cells_v1] using hfs 1 (by omega)
    have t2 : DataW.trod enc Tryz.prog W 0 (fun _ => true) true n 28 [c8, c9, c10, c11] = some y2 := by simpa [cells_v1] using hfs 2 (by omega)
    obtain ⟨a, rfl, rfl, rfl, rfl, ha⟩ := four_cells t0
    obtain ⟨b, rfl, rfl, rfl, rfl, hb⟩ := four_cells t1
    obtain ⟨c, rfl, rfl, rfl, rfl, hc⟩ := four_cells t2
    exact ⟨a, b, c, rfl, ha, hb, hc⟩
end
end Go.Proofs.YtglfhmlcmffoaaaGreat
