/-
  Windows and corners that come in: what they hold. What the dump lacks is left out.
-/
import Derived.Test.YtbhdloanlagddaaVF
import Derived.Test.YtbhdloanlagddaaHAd
import Derived.Deep.Slices
namespace Go.Proofs.Ytbhdloanlagddaa
open Go.ChangeShapes Go.WideShapes Go.ChangeAt Go.RowKit
set_option linter.unusedVariables false
set_option linter.unusedSimpArgs false

theorem cells_vecV : Try.prog.cellsOf 26 = 4 := by kernel_rfl
theorem cells_vecsV : Try.prog.cellsOf 27 = 1 := by kernel_rfl
theorem cells_fixV : Try.prog.cellsOf 22 = 1 := by kernel_rfl
theorem cells_intV : Try.prog.cellsOf 3 = 1 := by kernel_rfl
theorem cells_vertV : Try.prog.cellsOf 29 = 6 := by kernel_rfl
theorem cells_viewV : Try.prog.cellsOf 24 = 6 := by kernel_rfl
theorem array6V {cs : Array Value} (h : cs.size = 6) : ∃ c0 c1 c2 c3 c4 c5, cs = #[c0, c1, c2, c3, c4, c5] := by
  obtain ⟨l⟩ := cs
  match l, h with
  | [a, b, c, d, e, f], _ => exact ⟨a, b, c, d, e, f, rfl⟩
theorem array18V {cs : Array Value} (h : cs.size = 18) : ∃ c0 c1 c2 c3 c4 c5 d0 d1 d2 d3 d4 d5 e0 e1 e2 e3 e4 e5, cs = #[c0, c1, c2, c3, c4, c5, d0, d1, d2, d3, d4, d5, e0, e1, e2, e3, e4, e5] := by
  obtain ⟨l⟩ := cs
  match l, h with
  | [c0, c1, c2, c3, c4, c5, d0, d1, d2, d3, d4, d5, e0, e1, e2, e3, e4, e5], _ => exact ⟨c0, c1, c2, c3, c4, c5, d0, d1, d2, d3, d4, d5, e0, e1, e2, e3, e4, e5, rfl⟩
section
variable {H : Type} {enc : TypeId × Value → H}
theorem trod_struct3V {P : Program} {w : World} {base : Nat} {spare : Nat → Bool} {held : Bool} {t : TypeId} {f0 f1 f2 : Field} {fuel : Nat} {cs : List Value} {x : DataW H × List MemPlace} (ht : P.underlying t = some (.struct #[f0, f1, f2])) (h : DataW.trod enc P w base spare held fuel t cs = some x) :
    ∃ y0 y1 y2 n, DataW.trod enc P w base spare held n f0.type ((cs.drop f0.offset).take (P.cellsOf f0.type)) = some y0 ∧ DataW.trod enc P w base spare held n f1.type ((cs.drop f1.offset).take (P.cellsOf f1.type)) = some y1 ∧ DataW.trod enc P w base spare held n f2.type ((cs.drop f2.offset).take (P.cellsOf f2.type)) = some y2 := by
  obtain ⟨xs, n, _, rfl, hl, hlen, hf⟩ := DataW.trod_struct ht h
  match xs, hlen with
  | [y0, y1, y2], _ => exact ⟨y0, y1, y2, n, by simpa using hf 0 f0 rfl, by simpa using hf 1 f1 rfl, by simpa using hf 2 f2 rfl⟩
theorem trod_struct6V {P : Program} {w : World} {base : Nat} {spare : Nat → Bool} {held : Bool} {t : TypeId} {f0 f1 f2 f3 f4 f5 : Field} {fuel : Nat} {cs : List Value} {x : DataW H × List MemPlace} (ht : P.underlying t = some (.struct #[f0, f1, f2, f3, f4, f5])) (h : DataW.trod enc P w base spare held fuel t cs = some x) :
    ∃ y0 y1 y2 y3 y4 y5 n, DataW.trod enc P w base spare held n f0.type ((cs.drop f0.offset).take (P.cellsOf f0.type)) = some y0 ∧ DataW.trod enc P w base spare held n f1.type ((cs.drop f1.offset).take (P.cellsOf f1.type)) = some y1 ∧ DataW.trod enc P w base spare held n f2.type ((cs.drop f2.offset).take (P.cellsOf f2.type)) = some y2 ∧ DataW.trod enc P w base spare held n f3.type ((cs.drop f3.offset).take (P.cellsOf f3.type)) = some y3 ∧ DataW.trod enc P w base spare held n f4.type ((cs.drop f4.offset).take (P.cellsOf f4.type)) = some y4 ∧ DataW.trod enc P w base spare held n f5.type ((cs.drop f5.offset).take (P.cellsOf f5.type)) = some y5 := by
  obtain ⟨xs, n, _, rfl, hl, hlen, hf⟩ := DataW.trod_struct ht h
  match xs, hlen with
  | [y0, y1, y2, y3, y4, y5], _ => exact ⟨y0, y1, y2, y3, y4, y5, n, by simpa using hf 0 f0 rfl, by simpa using hf 1 f1 rfl, by simpa using hf 2 f2 rfl, by simpa using hf 3 f3 rfl, by simpa using hf 4 f4 rfl, by simpa using hf 5 f5 rfl⟩
set_option maxRecDepth 10000 in
theorem open_vecsQ {W : World} {u : Value} {fuel : Nat} {y : DataW H × List MemPlace} (hf : DataW.trod enc Try.prog W 0 (fun _ => true) true fuel 27 [u] = some y) : ∃ cs : List (Nat → Int), VQ W u cs ∧ ∀ c ∈ cs, ∀ i, I32 (c i) := by
  rcases Deep.open_slice Try.underlying27 hf with ⟨hcs, _⟩ | ⟨x, l, c, m, n, D, Pl, hcs, _, hl, hm, hmm, hx, hel⟩
  · simp at hcs
    subst hcs
    exact ⟨[], SR.nil _, by simp⟩
  · simp at hcs
    subst hcs
    simp only [if_true] at hmm
    subst hmm
    have each : ∀ i, i < l → ∃ c : Nat → Int, (∀ j, I32 (c j)) ∧ ∀ j, j < 4 → W.cell? ((x.add (i * 4)).add j) = some (.int .i32 (c j)) := by
      intro i hi
      obtain ⟨cs', h1, h2⟩ := hel i (by omega)
      rw [cells_vecV] at h1
      obtain ⟨_, hl2, hce⟩ := World.cells?_some h1
      match cs', hl2 with
      | [c0, c1, c2, c3], _ =>
        obtain ⟨a, rfl, rfl, rfl, rfl, hI⟩ := four_cells h2
        refine ⟨a, hI, fun j hj => ?_⟩
        rw [hce j hj]
        rcases (by omega : j = 0 ∨ j = 1 ∨ j = 2 ∨ j = 3) with rfl | rfl | rfl | rfl <;> rfl
    have hinh : Inhabited (Nat → Int) := ⟨nul⟩
    obtain ⟨F, hF⟩ := Deep.choose_lt (α := Nat → Int) (p := fun i c => (∀ j, I32 (c j)) ∧ ∀ j, j < 4 → W.cell? ((x.add (i * 4)).add j) = some (.int .i32 (c j))) (fun i hi => each i hi)
    have hlen : ((List.range l).map F).length = l := by simp
    refine ⟨(List.range l).map F, ⟨some x, _, by rw [hlen], (fun h => by cases h), by rw [hlen]; exact hl, hm, fun i hi => ?_⟩, ?_⟩
    · have hi' : i < l := by rw [hlen] at hi; exact hi
      obtain ⟨b, off, spot⟩ := x
      have hc0 := (hF 0 (by omega)).2 0 (by omega)
      have hspot : spot = none := by simpa [Addr.add] using World.cell?_spot hc0
      subst hspot
      refine ⟨b, off, rfl, fun j u hu => ?_⟩
      have hj : j < 4 := by simpa [vEnc] using (List.getElem?_eq_some_iff.1 hu).1
      have := (hF i hi').2 j hj
      rw [Addr.add_lit, Addr.add_lit] at this
      rw [this, ← hu]
      rcases (by omega : j = 0 ∨ j = 1 ∨ j = 2 ∨ j = 3) with rfl | rfl | rfl | rfl <;> simp [vEnc]
    · intro c hc i
      obtain ⟨k, hk, rfl⟩ := List.mem_map.1 hc
      exact (hF k (List.mem_range.1 hk)).1 i
set_option maxRecDepth 100000 in
theorem vert_cells {W : World} {fuel : Nat} {c0 c1 c2 c3 c4 c5 : Value} {y : DataW H × List MemPlace} (hf : DataW.trod enc Try.prog W 0 (fun _ => true) true fuel 29 [c0, c1, c2, c3, c4, c5] = some y) :
    ∃ x : Vt, c0 = .int .i32 (x.p 0) ∧ c1 = .int .i32 (x.p 1) ∧ c2 = .int .i32 (x.p 2) ∧ c3 = .int .i32 (x.p 3) ∧ c4 = .int .i32 x.s ∧ VQ W c5 x.vs ∧ Vt32 x := by
  obtain ⟨y0, y1, y2, n, h0, h1, h2⟩ := trod_struct3V Try.underlying29 hf
  simp only [cells_vecV, cells_fixV, cells_vecsV] at h0 h1 h2
  have t0 : DataW.trod enc Try.prog W 0 (fun _ => true) true n 26 [c0, c1, c2, c3] = some y0 := h0
  have t1 : DataW.trod enc Try.prog W 0 (fun _ => true) true n 22 [c4] = some y1 := h1
  have t2 : DataW.trod enc Try.prog W 0 (fun _ => true) true n 27 [c5] = some y2 := h2
  obtain ⟨a, rfl, rfl, rfl, rfl, hI⟩ := four_cells t0
  obtain ⟨s, e1, _, k1⟩ := DataW.trod_int Try.underlying22 t1
  obtain ⟨cs, hq, hc⟩ := open_vecsQ t2
  simp only [List.cons.injEq, and_true] at e1
  exact ⟨⟨a, s, cs⟩, rfl, rfl, rfl, rfl, e1, hq, hI, bounds_i32 k1, hc⟩
set_option maxRecDepth 100000 in
theorem open_vert {W : World} {base : Nat} {v : Value} {d : DataW H} {p : List MemPlace} (hv : Value.okWide Try.prog W .any base 29 v) (h : DataW.Trod enc Try.prog W 0 (fun _ => true) true 29 v d p) :
    ∃ (x : Vt) (u : Value), v = .agg #[.int .i32 (Vt.p x 0), .int .i32 (Vt.p x 1), .int .i32 (Vt.p x 2), .int .i32 (Vt.p x 3), .int .i32 (Vt.s x), u] ∧ VQ W u x.vs ∧ Vt32 x := by
  obtain ⟨cs, rfl, hsz⟩ := okWide_struct Try.underlying29 hv
  rw [cells_vertV] at hsz
  obtain ⟨c0, c1, c2, c3, c4, c5, rfl⟩ := array6V hsz
  obtain ⟨fuel, hf⟩ := h
  obtain ⟨x, rfl, rfl, rfl, rfl, rfl, hq, hI⟩ := vert_cells hf
  exact ⟨x, c5, rfl, hq, hI⟩
set_option maxRecDepth 100000 in
theorem open_view {W : World} {base : Nat} {v : Value} {d : DataW H} {p : List MemPlace} (hv : Value.okWide Try.prog W .any base 24 v) (h : DataW.Trod enc Try.prog W 0 (fun _ => true) true 24 v d p) :
    ∃ x : Vw, v = .agg #[.int .i64 (Vw.X x), .int .i64 (Vw.Y x), .int .i64 (Vw.W x), .int .i64 (Vw.H x), .int .i32 (Vw.Nr x), .int .i32 (Vw.Fr x)] := by
  obtain ⟨cs, rfl, hsz⟩ := okWide_struct Try.underlying24 hv
  rw [cells_viewV] at hsz
  obtain ⟨c0, c1, c2, c3, c4, c5, rfl⟩ := array6V hsz
  obtain ⟨fuel, hf⟩ := h
  obtain ⟨y0, y1, y2, y3, y4, y5, n, h0, h1, h2, h3, h4, h5⟩ := trod_struct6V Try.underlying24 hf
  simp only [cells_intV, cells_fixV] at h0 h1 h2 h3 h4 h5
  have t0 : DataW.trod enc Try.prog W 0 (fun _ => true) true n 3 [c0] = some y0 := h0
  have t1 : DataW.trod enc Try.prog W 0 (fun _ => true) true n 3 [c1] = some y1 := h1
  have t2 : DataW.trod enc Try.prog W 0 (fun _ => true) true n 3 [c2] = some y2 := h2
  have t3 : DataW.trod enc Try.prog W 0 (fun _ => true) true n 3 [c3] = some y3 := h3
  have t4 : DataW.trod enc Try.prog W 0 (fun _ => true) true n 22 [c4] = some y4 := h4
  have t5 : DataW.trod enc Try.prog W 0 (fun _ => true) true n 22 [c5] = some y5 := h5
  obtain ⟨a0, e0, _, _⟩ := DataW.trod_int Try.underlying3 t0
  obtain ⟨a1, e1, _, _⟩ := DataW.trod_int Try.underlying3 t1
  obtain ⟨a2, e2, _, _⟩ := DataW.trod_int Try.underlying3 t2
  obtain ⟨a3, e3, _, _⟩ := DataW.trod_int Try.underlying3 t3
  obtain ⟨a4, e4, _, _⟩ := DataW.trod_int Try.underlying22 t4
  obtain ⟨a5, e5, _, _⟩ := DataW.trod_int Try.underlying22 t5
  simp only [List.cons.injEq, and_true] at e0 e1 e2 e3 e4 e5
  subst e0 e1 e2 e3 e4 e5
  exact ⟨⟨a0, a1, a2, a3, a4, a5⟩, rfl⟩

/-- Three corners as one. -/
def thC (a b c : Vt) (ua ub uc : Value) : Array Value := #[.int .i32 (a.p 0), .int .i32 (a.p 1), .int .i32 (a.p 2), .int .i32 (a.p 3), .int .i32 a.s, ua, .int .i32 (b.p 0), .int .i32 (b.p 1), .int .i32 (b.p 2), .int .i32 (b.p 3), .int .i32 b.s, ub, .int .i32 (c.p 0), .int .i32 (c.p 1), .int .i32 (c.p 2), .int .i32 (c.p 3), .int .i32 c.s, uc]
theorem cells_threeV : Try.prog.cellsOf 31 = 18 := by kernel_rfl
set_option maxRecDepth 100000 in
theorem open_three21 {W : World} {base : Nat} {v : Value} {d : DataW H} {p : List MemPlace} (hv : Value.okWide Try.prog W .any base 31 v) (h : DataW.Trod enc Try.prog W 0 (fun _ => true) true 31 v d p) :
    ∃ (a b c : Vt) (ua ub uc : Value), v = .agg (thC a b c ua ub uc) ∧ (VQ W ua a.vs ∧ VQ W ub b.vs ∧ VQ W uc c.vs) ∧ Vt32 a ∧ Vt32 b ∧ Vt32 c := by
  obtain ⟨cs, rfl, hsz⟩ := okWide_struct Try.underlying31 hv
  rw [cells_threeV] at hsz
  obtain ⟨c0, c1, c2, c3, c4, c5, d0, d1, d2, d3, d4, d5, e0, e1, e2, e3, e4, e5, rfl⟩ := array18V hsz
  obtain ⟨fuel, hf⟩ := h
  obtain ⟨y0, y1, y2, n, h0, h1, h2⟩ := trod_struct3V Try.underlying31 hf
  simp only [cells_vertV] at h0 h1 h2
  have t0 : DataW.trod enc Try.prog W 0 (fun _ => true) true n 29 [c0, c1, c2, c3, c4, c5] = some y0 := h0
  have t1 : DataW.trod enc Try.prog W 0 (fun _ => true) true n 29 [d0, d1, d2, d3, d4, d5] = some y1 := h1
  have t2 : DataW.trod enc Try.prog W 0 (fun _ => true) true n 29 [e0, e1, e2, e3, e4, e5] = some y2 := h2
  obtain ⟨a, rfl, rfl, rfl, rfl, rfl, qa, ha⟩ := vert_cells t0
  obtain ⟨b, rfl, rfl, rfl, rfl, rfl, qb, hb⟩ := vert_cells t1
  obtain ⟨c, rfl, rfl, rfl, rfl, rfl, qc, hc⟩ := vert_cells t2
  exact ⟨a, b, c, c5, d5, e5, rfl, ⟨qa, qb, qc⟩, ha, hb, hc⟩
end
end Go.Proofs.Ytbhdloanlagddaa
