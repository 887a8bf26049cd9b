/-
  Images: a piece of a level with bytes, as it comes in.
-/
import Derived.Test.YtpjapdifmfpcnaaKX
import Derived.Test.YtpjapdifmfpcnaaJI
namespace Go.Proofs.Ytpjapdifmfpcnaa
open Go.ChangeShapes Go.WideShapes Go.ChangeAt Go.RowKit
set_option linter.unusedVariables false
set_option linter.unusedSimpArgs false

theorem Row.upto {k : IntKind} {w : World} {ao : Option Addr} {n cap : Nat} {xs : List Int} (h : Row k w (.slice ao n cap) xs) (m : Nat) (hm : m ≤ xs.length) : Row k w (.slice ao m cap) (xs.take m) := by
  rcases h with ⟨rfl, ao', cap', e, h0, hm'⟩ | ⟨hne, b, off, cap', e, hl, hm', hc⟩
  · cases e
    have : m = 0 := by simpa using hm
    subst this
    exact .inl ⟨rfl, _, _, rfl, h0, hm'⟩
  · cases e
    by_cases hm0 : m = 0
    · subst hm0
      exact .inl ⟨by simp, _, _, rfl, (fun h => by cases h), hm'⟩
    · have hl2 : (xs.take m).length = m := by simp; omega
      refine .inr ⟨fun e => hm0 (by have := congrArg List.length e; rw [hl2] at this; simpa using this), b, off, cap, by rw [hl2], by omega, hm', fun i hi => ?_⟩
      rw [hl2] at hi
      rw [hc i (by omega)]
      simp [List.getD, hi]

section
variable {H : Type} {enc : TypeId × Value → H}
theorem cells_cut : Try.prog.cellsOf 29 = 6 := by kernel_rfl
theorem cells_piece : Try.prog.cellsOf 26 = 4 := by kernel_rfl
theorem trod_struct4 {P : Program} {w : World} {base : Nat} {spare : Nat → Bool} {held : Bool} {t : TypeId} {f0 f1 f2 f3 : Field} {fuel : Nat} {cs : List Value} {x : DataW H × List MemPlace} (ht : P.underlying t = some (.struct #[f0, f1, f2, f3])) (h : DataW.trod enc P w base spare held fuel t cs = some x) :
    ∃ y0 y1 y2 y3 n, x.1 = .agg [y0.1, y1.1, y2.1, y3.1] ∧ cs.length = P.cellsOf t ∧ DataW.trod enc P w base spare held n f0.type ((cs.drop f0.offset).take (P.cellsOf f0.type)) = some y0 ∧ DataW.trod enc P w base spare held n f1.type ((cs.drop f1.offset).take (P.cellsOf f1.type)) = some y1 ∧ DataW.trod enc P w base spare held n f2.type ((cs.drop f2.offset).take (P.cellsOf f2.type)) = some y2 ∧ DataW.trod enc P w base spare held n f3.type ((cs.drop f3.offset).take (P.cellsOf f3.type)) = some y3 := by
  obtain ⟨xs, n, _, rfl, hl, hlen, hf⟩ := DataW.trod_struct ht h
  match xs, hlen with
  | [y0, y1, y2, y3], _ => exact ⟨y0, y1, y2, y3, n, rfl, hl, by simpa using hf 0 f0 rfl, by simpa using hf 1 f1 rfl, by simpa using hf 2 f2 rfl, by simpa using hf 3 f3 rfl⟩
set_option maxRecDepth 100000 in
theorem open_cut {W : World} {base : Nat} {v : Value} {d : DataW H} {p : List MemPlace} (hv : Value.okWide Try.prog W .any base 29 v) (h : DataW.Trod enc Try.prog W 0 (fun _ => true) true 29 v d p) (hw : Wgt Try.prog 29 d) :
    ∃ (lv X Y pw ph : Int) (u : Value) (bs : List Int), v = .agg #[.int .i64 lv, .int .i64 X, .int .i64 Y, .int .i64 pw, .int .i64 ph, u] ∧ Row .u8 W u bs ∧ Byt bs ∧ bs.length ≤ 140737488351232 := by
  obtain ⟨cs, rfl, hsz⟩ := okWide_struct Try.underlying29 hv
  rw [cells_cut] at hsz
  obtain ⟨c0, c1, c2, c3, c4, c5, rfl⟩ := array6 hsz
  obtain ⟨fuel, hf⟩ := h
  obtain ⟨y0, y1, y2, n, hx, hlen, h0, h1, h2⟩ := trod_struct3 Try.underlying29 hf
  simp only [cells_int, cells_piece, cells_bytes] at h0 h1 h2
  have t0 : DataW.trod enc Try.prog W 0 (fun _ => true) true n 3 [c0] = some y0 := h0
  have t1 : DataW.trod enc Try.prog W 0 (fun _ => true) true n 26 [c1, c2, c3, c4] = some y1 := h1
  have t2 : DataW.trod enc Try.prog W 0 (fun _ => true) true n 27 [c5] = some y2 := h2
  obtain ⟨z0, z1, z2, z3, n2, hx2, hlen2, g0, g1, g2, g3⟩ := trod_struct4 Try.underlying26 t1
  simp only [cells_int] at g0 g1 g2 g3
  have s0 : DataW.trod enc Try.prog W 0 (fun _ => true) true n2 3 [c1] = some z0 := g0
  have s1 : DataW.trod enc Try.prog W 0 (fun _ => true) true n2 3 [c2] = some z1 := g1
  have s2 : DataW.trod enc Try.prog W 0 (fun _ => true) true n2 3 [c3] = some z2 := g2
  have s3 : DataW.trod enc Try.prog W 0 (fun _ => true) true n2 3 [c4] = some z3 := g3
  obtain ⟨A, e0, _, _⟩ := DataW.trod_int Try.underlying3 t0
  obtain ⟨B, e1, _, _⟩ := DataW.trod_int Try.underlying3 s0
  obtain ⟨C, e2, _, _⟩ := DataW.trod_int Try.underlying3 s1
  obtain ⟨D, e3, _, _⟩ := DataW.trod_int Try.underlying3 s2
  obtain ⟨E, e4, _, _⟩ := DataW.trod_int Try.underlying3 s3
  simp only [List.cons.injEq, and_true] at e0 e1 e2 e3 e4
  subst e0 e1 e2 e3 e4
  have hd' : d = .agg [y0.1, y1.1, y2.1] := hx
  subst hd'
  have hw2 : Wgt Try.prog 27 y2.1 := Wgt.part Try.underlying29 hw (j := 2) rfl rfl
  obtain ⟨bs, hrow, hwf, hln⟩ := open_bytes t2 hw2
  exact ⟨A, B, C, D, E, c5, bs, rfl, hrow, hwf, hln⟩
end
end Go.Proofs.Ytpjapdifmfpcnaa
