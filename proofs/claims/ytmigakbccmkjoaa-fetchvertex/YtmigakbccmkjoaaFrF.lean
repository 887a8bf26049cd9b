/-
  Arrays, and where vertices are taken from, that come in: what they hold. What the dump lacks is left out.
-/
import Derived.Test.YtmigakbccmkjoaaFr
import Derived.Test.YtmigakbccmkjoaaFEc
import Derived.Test.YtmigakbccmkjoaaFEr
namespace Go.Proofs.Ytmigakbccmkjoaa
open Go.ChangeShapes Go.WideShapes Go.ChangeAt Go.RowKit
set_option linter.unusedVariables false
set_option linter.unusedSimpArgs false

theorem cells_arrF : Try.prog.cellsOf 24 = 5 := by kernel_rfl
theorem cells_intF : Try.prog.cellsOf 3 = 1 := by kernel_rfl
theorem cells_boolF : Try.prog.cellsOf 4 = 1 := by kernel_rfl
theorem cells_from : Try.prog.cellsOf 26 = 7 := by kernel_rfl
theorem array5F {cs : Array Value} (h : cs.size = 5) : ∃ c0 c1 c2 c3 c4, cs = #[c0, c1, c2, c3, c4] := by
  obtain ⟨l⟩ := cs
  match l, h with
  | [a, b, c, d, e], _ => exact ⟨a, b, c, d, e, rfl⟩
theorem array7F {cs : Array Value} (h : cs.size = 7) : ∃ c0 c1 c2 c3 c4 c5 c6, cs = #[c0, c1, c2, c3, c4, c5, c6] := by
  obtain ⟨l⟩ := cs
  match l, h with
  | [a, b, c, d, e, f, g], _ => exact ⟨a, b, c, d, e, f, g, rfl⟩
section
variable {H : Type} {enc : TypeId × Value → H}
theorem trod_struct5F {P : Program} {w : World} {base : Nat} {spare : Nat → Bool} {held : Bool} {t : TypeId} {f0 f1 f2 f3 f4 : Field} {fuel : Nat} {cs : List Value} {x : DataW H × List MemPlace} (ht : P.underlying t = some (.struct #[f0, f1, f2, f3, f4])) (h : DataW.trod enc P w base spare held fuel t cs = some x) :
    ∃ y0 y1 y2 y3 y4 n, DataW.trod enc P w base spare held n f0.type ((cs.drop f0.offset).take (P.cellsOf f0.type)) = some y0 ∧ DataW.trod enc P w base spare held n f1.type ((cs.drop f1.offset).take (P.cellsOf f1.type)) = some y1 ∧ DataW.trod enc P w base spare held n f2.type ((cs.drop f2.offset).take (P.cellsOf f2.type)) = some y2 ∧ DataW.trod enc P w base spare held n f3.type ((cs.drop f3.offset).take (P.cellsOf f3.type)) = some y3 ∧ DataW.trod enc P w base spare held n f4.type ((cs.drop f4.offset).take (P.cellsOf f4.type)) = some y4 := by
  obtain ⟨xs, n, _, rfl, hl, hlen, hf⟩ := DataW.trod_struct ht h
  match xs, hlen with
  | [y0, y1, y2, y3, y4], _ => exact ⟨y0, y1, y2, y3, y4, n, by simpa using hf 0 f0 rfl, by simpa using hf 1 f1 rfl, by simpa using hf 2 f2 rfl, by simpa using hf 3 f3 rfl, by simpa using hf 4 f4 rfl⟩
theorem trod_struct3F {P : Program} {w : World} {base : Nat} {spare : Nat → Bool} {held : Bool} {t : TypeId} {f0 f1 f2 : Field} {fuel : Nat} {cs : List Value} {x : DataW H × List MemPlace} (ht : P.underlying t = some (.struct #[f0, f1, f2])) (h : DataW.trod enc P w base spare held fuel t cs = some x) :
    ∃ y0 y1 y2 n, DataW.trod enc P w base spare held n f0.type ((cs.drop f0.offset).take (P.cellsOf f0.type)) = some y0 ∧ DataW.trod enc P w base spare held n f1.type ((cs.drop f1.offset).take (P.cellsOf f1.type)) = some y1 ∧ DataW.trod enc P w base spare held n f2.type ((cs.drop f2.offset).take (P.cellsOf f2.type)) = some y2 := by
  obtain ⟨xs, n, _, rfl, hl, hlen, hf⟩ := DataW.trod_struct ht h
  match xs, hlen with
  | [y0, y1, y2], _ => exact ⟨y0, y1, y2, n, by simpa using hf 0 f0 rfl, by simpa using hf 1 f1 rfl, by simpa using hf 2 f2 rfl⟩
set_option maxRecDepth 100000 in
theorem arr_cells {W : World} {fuel : Nat} {c0 c1 c2 c3 c4 : Value} {y : DataW H × List MemPlace} (hf : DataW.trod enc Try.prog W 0 (fun _ => true) true fuel 24 [c0, c1, c2, c3, c4] = some y) : ∃ A : Arr, c0 = .int .i64 A.size ∧ c1 = .int .i64 A.kind ∧ c2 = .bool A.nz ∧ c3 = .int .i64 A.stride ∧ c4 = .int .i64 A.off := by
  obtain ⟨y0, y1, y2, y3, y4, n, h0, h1, h2, h3, h4⟩ := trod_struct5F Try.underlying24 hf
  simp only [cells_intF, cells_boolF] at h0 h1 h2 h3 h4
  have t0 : DataW.trod enc Try.prog W 0 (fun _ => true) true n 3 [c0] = some y0 := h0
  have t1 : DataW.trod enc Try.prog W 0 (fun _ => true) true n 3 [c1] = some y1 := h1
  have t2 : DataW.trod enc Try.prog W 0 (fun _ => true) true n 4 [c2] = some y2 := h2
  have t3 : DataW.trod enc Try.prog W 0 (fun _ => true) true n 3 [c3] = some y3 := h3
  have t4 : DataW.trod enc Try.prog W 0 (fun _ => true) true n 3 [c4] = some y4 := h4
  obtain ⟨a, e0, _, k0⟩ := DataW.trod_int Try.underlying3 t0
  obtain ⟨b, e1, _, k1⟩ := DataW.trod_int Try.underlying3 t1
  obtain ⟨z, e2, _⟩ := DataW.trod_bool Try.underlying4 t2
  obtain ⟨c, e3, _, k3⟩ := DataW.trod_int Try.underlying3 t3
  obtain ⟨d, e4, _, k4⟩ := DataW.trod_int Try.underlying3 t4
  simp only [List.cons.injEq, and_true] at e0 e1 e2 e3 e4
  exact ⟨⟨a, b, z, c, d⟩, e0, e1, e2, e3, e4⟩

set_option maxRecDepth 100000 in
theorem open_arr {W : World} {base : Nat} {v : Value} {d : DataW H} {p : List MemPlace} (hv : Value.okWide Try.prog W .any base 24 v) (h : DataW.Trod enc Try.prog W 0 (fun _ => true) true 24 v d p) : ∃ A : Arr, v = .agg (arC A) := by
  obtain ⟨cs, rfl, hsz⟩ := okWide_struct Try.underlying24 hv
  rw [cells_arrF] at hsz
  obtain ⟨c0, c1, c2, c3, c4, rfl⟩ := array5F hsz
  obtain ⟨fuel, hf⟩ := h
  obtain ⟨A, rfl, rfl, rfl, rfl, rfl⟩ := arr_cells hf
  exact ⟨A, rfl⟩

/-- Where vertices are taken from, as cells. -/
def frC (A : Arr) (fi co : Int) : Array Value := #[.int .i64 A.size, .int .i64 A.kind, .bool A.nz, .int .i64 A.stride, .int .i64 A.off, .int .i64 fi, .int .i64 co]
set_option maxRecDepth 100000 in
theorem open_from {W : World} {base : Nat} {v : Value} {d : DataW H} {p : List MemPlace} (hv : Value.okWide Try.prog W .any base 26 v) (h : DataW.Trod enc Try.prog W 0 (fun _ => true) true 26 v d p) : ∃ A fi co, v = .agg (frC A fi co) := by
  obtain ⟨cs, rfl, hsz⟩ := okWide_struct Try.underlying26 hv
  rw [cells_from] at hsz
  obtain ⟨c0, c1, c2, c3, c4, c5, c6, rfl⟩ := array7F hsz
  obtain ⟨fuel, hf⟩ := h
  obtain ⟨y0, y1, y2, n, h0, h1, h2⟩ := trod_struct3F Try.underlying26 hf
  simp only [cells_intF, cells_arrF] at h0 h1 h2
  have t0 : DataW.trod enc Try.prog W 0 (fun _ => true) true n 24 [c0, c1, c2, c3, c4] = some y0 := h0
  have t1 : DataW.trod enc Try.prog W 0 (fun _ => true) true n 3 [c5] = some y1 := h1
  have t2 : DataW.trod enc Try.prog W 0 (fun _ => true) true n 3 [c6] = some y2 := h2
  obtain ⟨A, rfl, rfl, rfl, rfl, rfl⟩ := arr_cells t0
  obtain ⟨a, e1, _, k1⟩ := DataW.trod_int Try.underlying3 t1
  obtain ⟨b, e2, _, k2⟩ := DataW.trod_int Try.underlying3 t2
  simp only [List.cons.injEq, and_true] at e1 e2
  subst e1 e2
  exact ⟨A, a, b, rfl⟩
end
/-- What short answers: bytes, one behind them. -/
def ShoQ (w : World) (xs : List Int) (e : Ending) (w' : World) : Prop :=
  ∃ g cap ys, e = .returned (.slice (some ⟨g, 0, none⟩) ys.length cap) ∧ Own .u8 w' w.heap.size 5 (.slice (some ⟨g, 0, none⟩) (ys.length + 1) cap) (ys ++ [7]) ∧ Row .u8 w' (.slice (some ⟨g, 0, none⟩) ys.length cap) ys ∧ Byt ys ∧ ys.length ≤ 3000 ∧ ys.length + 1 ≤ cap ∧ cap ≤ 9223372036854775807 ∧ w.heap.size ≤ g ∧ Ext w w'
theorem shortQ_any (v : Value) (xs : List Int) (w : World) (hr : Row .u8 w v xs) (hB : Byt xs) (hm : xs.length ≤ 140737488351232) : Calls Try.prog 9 #[v] w (ShoQ w xs) := by
  refine (short20_any v xs w hr hm).mono ?_
  rintro e w' ⟨g, cap, rfl, hown, hlc, hx⟩
  have hr2 := hown.row
  obtain ⟨_, _, e2, _, hl2, hm2⟩ := hr2.shape
  have hc : cap ≤ 9223372036854775807 := by
    have := (Value.slice.inj e2).2.2
    unfold maxLen at hm2
    omega
  refine ⟨g, cap, xs.take 3000, rfl, hown, ?_, fun x hx => hB x (List.mem_of_mem_take hx), by simp; omega, hlc, hc, (hown.lt g rfl).1, hx⟩
  have hr3 : Row .u8 w' (.slice (some ⟨g, 0, none⟩) (xs.take 3000 ++ [7]).length cap) (xs.take 3000 ++ [7]) := by
    rw [List.length_append]
    exact hr2
  have := hr3.takeN (xs.take 3000).length (by simp)
  rwa [List.take_left] at this
end Go.Proofs.Ytmigakbccmkjoaa
