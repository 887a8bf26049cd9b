/-
  Rows of tokens that came in.
-/
import Derived.Test.YtgoldmohmjjngaaXM
import Derived.Test.YtgoldmohmjjngaaFrH
import Derived.Deep.Slices
namespace Go.Proofs.Ytgoldmohmjjngaa
open Go.ChangeShapes Go.WideShapes Go.ChangeAt Go.RowKit

theorem cells_tok : Try.prog.cellsOf 33 = 5 := by kernel_rfl
theorem cells_int : Try.prog.cellsOf 3 = 1 := by kernel_rfl
theorem cells_str : Try.prog.cellsOf 9 = 1 := by kernel_rfl
theorem cells_fix : Try.prog.cellsOf 31 = 1 := by kernel_rfl
section
variable {H : Type} {enc : TypeId × Value → H}
theorem trod_struct5 {P : Program} {w : World} {base : Nat} {spare : Nat → Bool} {held : Bool} {t : TypeId} {f0 f1 f2 f3 f4 : Field} {fuel : Nat} {cs : List Value} {x : DataW H × List MemPlace} (ht : P.underlying t = some (.struct #[f0, f1, f2, f3, f4])) (h : DataW.trod enc P w base spare held fuel t cs = some x) :
    ∃ y0 y1 y2 y3 y4 n, cs.length = P.cellsOf t ∧ DataW.trod enc P w base spare held n f0.type ((cs.drop f0.offset).take (P.cellsOf f0.type)) = some y0 ∧
      DataW.trod enc P w base spare held n f1.type ((cs.drop f1.offset).take (P.cellsOf f1.type)) = some y1 ∧ DataW.trod enc P w base spare held n f2.type ((cs.drop f2.offset).take (P.cellsOf f2.type)) = some y2 ∧
      DataW.trod enc P w base spare held n f3.type ((cs.drop f3.offset).take (P.cellsOf f3.type)) = some y3 ∧ DataW.trod enc P w base spare held n f4.type ((cs.drop f4.offset).take (P.cellsOf f4.type)) = some y4 := by
  obtain ⟨xs, n, _, rfl, hl, hlen, hf⟩ := DataW.trod_struct ht h
  match xs, hlen with
  | [y0, y1, y2, y3, y4], _ => exact ⟨y0, y1, y2, y3, y4, n, hl, by simpa using hf 0 f0 rfl, by simpa using hf 1 f1 rfl, by simpa using hf 2 f2 rfl, by simpa using hf 3 f3 rfl, by simpa using hf 4 f4 rfl⟩
set_option maxRecDepth 10000 in
/-- A slice of tokens that came in. -/
theorem open_toks {W : World} {base : Nat} {v : Value} {d : DataW H} {p : List MemPlace}
    (hv : Value.okWide Try.prog W .any base 24 v) (h : DataW.Trod enc Try.prog W 0 (fun _ => true) true 24 v d p) :
    ∃ L : List Tok, TR W v L := by
  obtain ⟨a, len, cap, rfl⟩ := okWide_slice Try.underlying24 hv
  obtain ⟨fuel, hf⟩ := h
  rcases Deep.open_slice Try.underlying24 hf with ⟨hcs, _⟩ | ⟨x, l, c, m, n, D, Pl, hcs, _, hl, hm, hmm, hx, hel⟩
  · simp [Value.cells] at hcs
    obtain ⟨rfl, rfl, rfl⟩ := hcs
    exact ⟨[], TR.nil _⟩
  · simp [Value.cells] at hcs
    obtain ⟨rfl, rfl, rfl⟩ := hcs
    simp only [if_true] at hmm
    subst hmm
    have each : ∀ i, i < len → ∃ y : Tok, W.cell? (x.add (i * 5)) = some (.int .i64 y.kind) ∧ W.cell? ((x.add (i * 5)).add 1) = some (.string ⟨y.text.toArray⟩) ∧ W.cell? ((x.add (i * 5)).add 2) = some (.int .i32 y.num) ∧ W.cell? ((x.add (i * 5)).add 3) = some (.int .i64 y.place) ∧ W.cell? ((x.add (i * 5)).add 4) = some (.int .i64 y.line) := by
      intro i hi
      obtain ⟨cs', h1, h2⟩ := hel i (by omega)
      rw [cells_tok] at h1
      obtain ⟨y0, y1, y2, y3, y4, n', hlen, t0, t1, t2, t3, t4⟩ := trod_struct5 Try.underlying33 h2
      obtain ⟨_, hl2, hce⟩ := World.cells?_some h1
      match cs', hl2 with
      | [u0, u1, u2, u3, u4], _ =>
        have hc0 := hce 0 (by omega)
        have hc1 := hce 1 (by omega)
        have hc2 := hce 2 (by omega)
        have hc3 := hce 3 (by omega)
        have hc4 := hce 4 (by omega)
        simp only [cells_int, cells_str, cells_fix, List.drop_zero, List.drop_succ_cons, List.take_succ_cons, List.take_zero] at t0 t1 t2 t3 t4
        obtain ⟨K, e0, _, k0⟩ := DataW.trod_int Try.underlying3 t0
        obtain ⟨s, e1, _, k1⟩ := DataW.trod_string Try.underlying9 t1
        obtain ⟨I, e2, _, k2⟩ := DataW.trod_int Try.underlying31 t2
        obtain ⟨A, e3, _, k3⟩ := DataW.trod_int Try.underlying3 t3
        obtain ⟨N, e4, _, k4⟩ := DataW.trod_int Try.underlying3 t4
        simp only [List.cons.injEq, and_true] at e0 e1 e2 e3 e4
        subst e0 e1 e2 e3 e4
        refine ⟨⟨K, s.data.toList, I, A, N⟩, ?_, hc1, hc2, hc3, hc4⟩
        have e : (x.add (i * 5)).add 0 = x.add (i * 5) := by unfold Addr.add; split <;> simp_all
        rw [e] at hc0
        exact hc0
    have hinh : Inhabited Tok := ⟨⟨0, [], 0, 0, 0⟩⟩
    obtain ⟨F, hF⟩ := Deep.choose_lt (α := Tok) (p := fun i y => W.cell? (x.add (i * 5)) = some (.int .i64 y.kind) ∧ W.cell? ((x.add (i * 5)).add 1) = some (.string ⟨y.text.toArray⟩) ∧ W.cell? ((x.add (i * 5)).add 2) = some (.int .i32 y.num) ∧ W.cell? ((x.add (i * 5)).add 3) = some (.int .i64 y.place) ∧ W.cell? ((x.add (i * 5)).add 4) = some (.int .i64 y.line)) (fun i hi => each i hi)
    have hlen : ((List.range len).map F).length = len := by simp
    refine ⟨(List.range len).map F, some x, _, by rw [hlen], (fun h => by cases h), by rw [hlen]; exact hl, hm, fun i hi => ?_⟩
    rw [hlen] at hi
    obtain ⟨b, off, spot⟩ := x
    have hspot : spot = none := by simpa [Addr.add] using World.cell?_spot (hF 0 (by omega)).1
    subst hspot
    have h := hF i hi
    simp only [Addr.add_lit] at h
    simp only [List.getElem_map, List.getElem_range]
    exact ⟨b, off, rfl, h.1, h.2.1, h.2.2.1, h.2.2.2.1, h.2.2.2.2⟩
end
end Go.Proofs.Ytgoldmohmjjngaa
