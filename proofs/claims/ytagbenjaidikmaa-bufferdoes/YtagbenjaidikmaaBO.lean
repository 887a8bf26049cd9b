/-
  Rows of what is done with buffers that come in: what they hold.
-/
import Derived.Test.YtagbenjaidikmaaBW
import Derived.Test.YtagbenjaidikmaaFr
import Derived.Deep.Slices
namespace Go.Proofs.Ytagbenjaidikmaa
open Go.ChangeShapes Go.WideShapes Go.ChangeAt Go.RowKit

/-- What is done: its kind, number, place, count; its bytes as a value and as numbers. -/
structure Op5 where
  K : Int
  I : Int
  A : Int
  N : Int
  v : Value
  bs : List Int
def Op5.cells (o : Op5) : Array Value := #[.int .i64 o.K, .int .i64 o.I, .int .i64 o.A, .int .i64 o.N, o.v]
structure Op5.Ok (w : World) (o : Op5) : Prop where
  row : Row .u8 w o.v o.bs
  byt : Byt o.bs
  K : I64 o.K
  I : I64 o.I
  A : I64 o.A
  N : I64 o.N
theorem Op5.Ok.ext {w w' : World} {o : Op5} (h : o.Ok w) (hx : Ext w w') : o.Ok w' := ⟨h.row.ext hx, h.byt, h.K, h.I, h.A, h.N⟩
def ORow (w : World) (v : Value) (xs : List Op5) : Prop :=
  ∃ ao cap, v = .slice ao xs.length cap ∧ xs.length ≤ cap ∧ cap ≤ maxLen ∧ (ao = none → cap = 0) ∧ ∀ i (h : i < xs.length), (xs[i]).Ok w ∧ ∃ b off, ao = some ⟨b, off, none⟩ ∧
    w.cell? ⟨b, off + i * 5, none⟩ = some (.int .i64 (xs[i]).K) ∧ w.cell? ⟨b, off + i * 5 + 1, none⟩ = some (.int .i64 (xs[i]).I) ∧ w.cell? ⟨b, off + i * 5 + 2, none⟩ = some (.int .i64 (xs[i]).A) ∧ w.cell? ⟨b, off + i * 5 + 3, none⟩ = some (.int .i64 (xs[i]).N) ∧ w.cell? ⟨b, off + i * 5 + 4, none⟩ = some (xs[i]).v

theorem cells_op : Try.prog.cellsOf 36 = 5 := by kernel_rfl
theorem cells_int : Try.prog.cellsOf 3 = 1 := by kernel_rfl
theorem cells_bytes : Try.prog.cellsOf 34 = 1 := by kernel_rfl
theorem cells_byte : Try.prog.cellsOf 5 = 1 := by kernel_rfl
theorem byt_wf {x : Int} (h : (Lit.int .u8 x).wf = true) : 0 ≤ x ∧ x ≤ 255 := by
  simp only [Lit.wf, Bool.and_eq_true, decide_eq_true_eq] at h
  exact h

section
variable {H : Type} {enc : TypeId × Value → H}
theorem trod_struct5 {P : Program} {w : World} {base : Nat} {spare : Nat → Bool} {held : Bool} {t : TypeId} {f0 f1 f2 f3 f4 : Field} {fuel : Nat} {cs : List Value} {x : DataW H × List MemPlace} (ht : P.underlying t = some (.struct #[f0, f1, f2, f3, f4])) (h : DataW.trod enc P w base spare held fuel t cs = some x) :
    ∃ y0 y1 y2 y3 y4 n, cs.length = P.cellsOf t ∧ DataW.trod enc P w base spare held n f0.type ((cs.drop f0.offset).take (P.cellsOf f0.type)) = some y0 ∧
      DataW.trod enc P w base spare held n f1.type ((cs.drop f1.offset).take (P.cellsOf f1.type)) = some y1 ∧ DataW.trod enc P w base spare held n f2.type ((cs.drop f2.offset).take (P.cellsOf f2.type)) = some y2 ∧
      DataW.trod enc P w base spare held n f3.type ((cs.drop f3.offset).take (P.cellsOf f3.type)) = some y3 ∧ DataW.trod enc P w base spare held n f4.type ((cs.drop f4.offset).take (P.cellsOf f4.type)) = some y4 := by
  obtain ⟨xs, n, _, rfl, hl, hlen, hf⟩ := DataW.trod_struct ht h
  match xs, hlen with
  | [y0, y1, y2, y3, y4], _ => exact ⟨y0, y1, y2, y3, y4, n, hl, by simpa using hf 0 f0 rfl, by simpa using hf 1 f1 rfl, by simpa using hf 2 f2 rfl, by simpa using hf 3 f3 rfl, by simpa using hf 4 f4 rfl⟩
/-- A slice of integers within what came in. -/
theorem open_cell {P : Program} {W : World} {t e : TypeId} {k : IntKind} {u : Value} {fuel : Nat} {y : DataW H × List MemPlace} (ht : P.underlying t = some (.slice e)) (he : P.underlying e = some (.int k)) (hc : P.cellsOf e = 1)
    (hf : DataW.trod enc P W 0 (fun _ => true) true fuel t [u] = some y) : ∃ xs : List Int, Row k W u xs ∧ ∀ x ∈ xs, (Lit.int k x).wf = true := by
  rcases open_ints ht he hc hf with ⟨hcs, _⟩ | ⟨x, l, c, zs, hcs, _, hl, hm, hz, hx, hcell, hwz⟩
  · simp at hcs
    subst hcs
    exact ⟨[], Row.nil _ _, by simp⟩
  · simp at hcs
    subst hcs
    simp only [if_true] at hz
    have hlen : (zs.take l).length = l := by simp; omega
    refine ⟨zs.take l, ?_, fun n hn => hwz n (List.mem_of_mem_take hn)⟩
    by_cases h0 : l = 0
    · subst h0
      exact .inl ⟨by simp, some x, c, rfl, (fun h => by cases h), hm⟩
    · obtain ⟨b, off, spot⟩ := x
      have hc0 := hcell 0 (by omega)
      have hspot : spot = none := by simpa [Addr.add] using World.cell?_spot hc0
      subst hspot
      refine .inr ⟨?_, b, off, c, by rw [hlen], by rw [hlen]; exact hl, hm, fun i hi => ?_⟩
      · intro h
        rw [h] at hlen
        exact h0 (by simpa using hlen.symm)
      · rw [hlen] at hi
        have hci := hcell i (by omega)
        rw [Addr.add_lit] at hci
        rw [hci]
        have e2 : (zs.take l).getD i 0 = zs.getD i 0 := by simp [List.getD, hi]
        rw [e2]
set_option maxRecDepth 10000 in
/-- A slice of ops that came in. -/
theorem open_ops {W : World} {base : Nat} {v : Value} {d : DataW H} {p : List MemPlace}
    (hv : Value.okWide Try.prog W .any base 22 v) (h : DataW.Trod enc Try.prog W 0 (fun _ => true) true 22 v d p) :
    ∃ xs : List Op5, ORow W v xs := by
  obtain ⟨a, len, cap, rfl⟩ := okWide_slice Try.underlying22 hv
  obtain ⟨fuel, hf⟩ := h
  rcases Deep.open_slice Try.underlying22 hf with ⟨hcs, _⟩ | ⟨x, l, c, m, n, D, Pl, hcs, _, hl, hm, hmm, hx, hel⟩
  · simp [Value.cells] at hcs
    obtain ⟨rfl, rfl, rfl⟩ := hcs
    exact ⟨[], none, 0, rfl, Nat.le_refl _, Nat.zero_le _, fun _ => rfl, fun i hi => by simp at hi⟩
  · simp [Value.cells] at hcs
    obtain ⟨rfl, rfl, rfl⟩ := hcs
    simp only [if_true] at hmm
    subst hmm
    have each : ∀ i, i < len → ∃ y : Op5, y.Ok W ∧ W.cell? (x.add (i * 5)) = some (.int .i64 y.K) ∧ W.cell? ((x.add (i * 5)).add 1) = some (.int .i64 y.I) ∧ W.cell? ((x.add (i * 5)).add 2) = some (.int .i64 y.A) ∧ W.cell? ((x.add (i * 5)).add 3) = some (.int .i64 y.N) ∧ W.cell? ((x.add (i * 5)).add 4) = some y.v := by
      intro i hi
      obtain ⟨cs', h1, h2⟩ := hel i (by omega)
      rw [cells_op] at h1
      obtain ⟨y0, y1, y2, y3, y4, n', hlen, t0, t1, t2, t3, t4⟩ := trod_struct5 Try.underlying36 h2
      obtain ⟨_, hl2, hce⟩ := World.cells?_some h1
      match cs', hl2 with
      | [u0, u1, u2, u3, u4], _ =>
        have hc0 := hce 0 (by omega)
        have hc1 := hce 1 (by omega)
        have hc2 := hce 2 (by omega)
        have hc3 := hce 3 (by omega)
        have hc4 := hce 4 (by omega)
        simp only [cells_int, cells_bytes, List.drop_zero, List.drop_succ_cons, List.take_succ_cons, List.take_zero] at t0 t1 t2 t3 t4
        obtain ⟨K, e0, _, k0⟩ := DataW.trod_int Try.underlying3 t0
        obtain ⟨I, e1, _, k1⟩ := DataW.trod_int Try.underlying3 t1
        obtain ⟨A, e2, _, k2⟩ := DataW.trod_int Try.underlying3 t2
        obtain ⟨N, e3, _, k3⟩ := DataW.trod_int Try.underlying3 t3
        obtain ⟨bs, hrow, hwf⟩ := open_cell Try.underlying34 Try.underlying5 cells_byte t4
        simp only [List.cons.injEq, and_true] at e0 e1 e2 e3
        subst e0 e1 e2 e3
        refine ⟨⟨K, I, A, N, u4, bs⟩, ⟨hrow, fun y hy => byt_wf (hwf y hy), bounds_i64 k0, bounds_i64 k1, bounds_i64 k2, bounds_i64 k3⟩, ?_, hc1, hc2, hc3, hc4⟩
        have e : (x.add (i * 5)).add 0 = x.add (i * 5) := by unfold Addr.add; split <;> simp_all
        rw [e] at hc0
        exact hc0
    have hinh : Inhabited Op5 := ⟨⟨0, 0, 0, 0, .slice none 0 0, []⟩⟩
    obtain ⟨F, hF⟩ := Deep.choose_lt (α := Op5) (p := fun i y => y.Ok W ∧ W.cell? (x.add (i * 5)) = some (.int .i64 y.K) ∧ W.cell? ((x.add (i * 5)).add 1) = some (.int .i64 y.I) ∧ W.cell? ((x.add (i * 5)).add 2) = some (.int .i64 y.A) ∧ W.cell? ((x.add (i * 5)).add 3) = some (.int .i64 y.N) ∧ W.cell? ((x.add (i * 5)).add 4) = some y.v) (fun i hi => each i hi)
    have hlen : ((List.range len).map F).length = len := by simp
    refine ⟨(List.range len).map F, some x, _, by rw [hlen], by rw [hlen]; exact hl, hm, (fun h => by cases h), fun i hi => ?_⟩
    rw [hlen] at hi
    obtain ⟨b, off, spot⟩ := x
    have hspot : spot = none := by simpa [Addr.add] using World.cell?_spot (hF 0 (by omega)).2.1
    subst hspot
    have h := hF i hi
    simp only [Addr.add_lit] at h
    simp only [List.getElem_map, List.getElem_range]
    exact ⟨h.1, b, off, rfl, h.2⟩
end

/-- An op in a world behind. -/
theorem ORow.at {w w' : World} {ao : Option Addr} {n cap : Nat} {xs : List Op5} (h : ORow w (.slice ao n cap) xs) (hx : Ext w w') (i : Nat) (hi : i < xs.length) : (xs[i]).Ok w' ∧ ∃ b off, ao = some ⟨b, off, none⟩ ∧
    w'.cell? ⟨b, off + i * 5, none⟩ = some (.int .i64 (xs[i]).K) ∧ w'.cell? ⟨b, off + i * 5 + 1, none⟩ = some (.int .i64 (xs[i]).I) ∧ w'.cell? ⟨b, off + i * 5 + 2, none⟩ = some (.int .i64 (xs[i]).A) ∧ w'.cell? ⟨b, off + i * 5 + 3, none⟩ = some (.int .i64 (xs[i]).N) ∧ w'.cell? ⟨b, off + i * 5 + 4, none⟩ = some (xs[i]).v := by
  obtain ⟨ao', cap', e, _, _, _, h5⟩ := h
  cases e
  obtain ⟨hok, b, off, hao, c0, c1, c2, c3, c4⟩ := h5 i hi
  have hc : ∀ j u, w.cell? ⟨b, j, none⟩ = some u → w'.cell? ⟨b, j, none⟩ = some u := fun j u hu => by
    rw [hx.cell (p := ⟨b, j, none⟩) (World.block_lt_of_cell? w _ hu)]
    exact hu
  exact ⟨hok.ext hx, b, off, hao, hc _ _ c0, hc _ _ c1, hc _ _ c2, hc _ _ c3, hc _ _ c4⟩
end Go.Proofs.Ytagbenjaidikmaa
