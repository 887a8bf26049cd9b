/-
  Places that come in: what they hold; '==' of two vectors; Texel, Nearest, Linear, the two ways in one. What the dump lacks is left out.
-/
import Derived.Test.YtadajaoidhbmgaaSN
import Derived.Test.YtadajaoidhbmgaaFrI
import Derived.Test.YtadajaoidhbmgaaPW
namespace Go.Proofs.Ytadajaoidhbmgaa
open Go.ChangeShapes Go.WideShapes Go.ChangeAt Go.RowKit
set_option linter.unusedVariables false
set_option linter.unusedSimpArgs false

theorem cells_fix : Try.prog.cellsOf 25 = 1 := by kernel_rfl
theorem cells_at : Try.prog.cellsOf 27 = 6 := by kernel_rfl
/-- A place as a value. -/
def atVal (u q lod lv i j : Int) : Array Value := #[.int .i32 u, .int .i32 q, .int .i32 lod, .int .i64 lv, .int .i64 i, .int .i64 j]
section
variable {H : Type} {enc : TypeId × Value → H}
set_option maxRecDepth 100000 in
theorem open_at {W : World} {base : Nat} {v : Value} {d : DataW H} {p : List MemPlace} (hv : Value.okWide Try.prog W .any base 27 v) (h : DataW.Trod enc Try.prog W 0 (fun _ => true) true 27 v d p) :
    ∃ u q lod lv i j : Int, v = .agg #[.int .i32 u, .int .i32 q, .int .i32 lod, .int .i64 lv, .int .i64 i, .int .i64 j] ∧ I32 u ∧ I32 q ∧ I32 lod ∧ I64 lv ∧ I64 i ∧ I64 j := by
  obtain ⟨cs, rfl, hsz⟩ := okWide_struct Try.underlying27 hv
  rw [cells_at] at hsz
  obtain ⟨c0, c1, c2, c3, c4, c5, rfl⟩ := array6 hsz
  obtain ⟨fuel, hf⟩ := h
  obtain ⟨y0, y1, y2, y3, y4, y5, n, hx, hlen, h0, h1, h2, h3, h4, h5⟩ := trod_struct6 Try.underlying27 hf
  simp only [cells_int, cells_fix] at h0 h1 h2 h3 h4 h5
  have t0 : DataW.trod enc Try.prog W 0 (fun _ => true) true n 25 [c0] = some y0 := h0
  have t1 : DataW.trod enc Try.prog W 0 (fun _ => true) true n 25 [c1] = some y1 := h1
  have t2 : DataW.trod enc Try.prog W 0 (fun _ => true) true n 25 [c2] = some y2 := h2
  have t3 : DataW.trod enc Try.prog W 0 (fun _ => true) true n 3 [c3] = some y3 := h3
  have t4 : DataW.trod enc Try.prog W 0 (fun _ => true) true n 3 [c4] = some y4 := h4
  have t5 : DataW.trod enc Try.prog W 0 (fun _ => true) true n 3 [c5] = some y5 := h5
  obtain ⟨A, e0, _, k0⟩ := DataW.trod_int Try.underlying25 t0
  obtain ⟨B, e1, _, k1⟩ := DataW.trod_int Try.underlying25 t1
  obtain ⟨C, e2, _, k2⟩ := DataW.trod_int Try.underlying25 t2
  obtain ⟨D, e3, _, k3⟩ := DataW.trod_int Try.underlying3 t3
  obtain ⟨E, e4, _, k4⟩ := DataW.trod_int Try.underlying3 t4
  obtain ⟨F, e5, _, k5⟩ := DataW.trod_int Try.underlying3 t5
  simp only [List.cons.injEq, and_true] at e0 e1 e2 e3 e4 e5
  subst e0 e1 e2 e3 e4 e5
  exact ⟨A, B, C, D, E, F, rfl, bounds_i32 k0, bounds_i32 k1, bounds_i32 k2, bounds_i64 k3, bounds_i64 k4, bounds_i64 k5⟩
end

def txV (I : Img) (lv i j : Int) : Nat → Int := if rfE I lv = 0 then txI I (levAt I lv) i j else nul
def nrV (I : Img) (lv u q : Int) : Nat → Int := if rfE I lv = 0 then nrI I (levAt I lv) u q else nul
def lnV (I : Img) (lv u q : Int) : Nat → Int := if rfE I lv = 0 then lnI I (levAt I lv) u q else nul
section
variable {w : World} {v : Value} {L : List Ent} {I : Img}

theorem nearest_any (h : LR w v L) (hL : L.length ≤ 4000000000000) (hA : I.L = absL L) (hby : ∀ p ∈ L, Byt p.2.2.2) (lv u q : Int) (hu : I32 u) (hq : I32 q) :
    Calls Try.prog 6 #[.agg #[.int .i64 I.f, v, .int .i64 I.ws, .int .i64 I.wt, .int .i64 I.mn, .int .i64 I.mg], .int .i64 lv, .int .i32 u, .int .i32 q] w fun e w' => e = .returned (.tuple #[.agg #[.int .i32 ((nrV I lv u q) 0), .int .i32 ((nrV I lv u q) 1), .int .i32 ((nrV I lv u q) 2), .int .i32 ((nrV I lv u q) 3)], .int .i64 (rfE I lv)]) ∧ Ext w w' := by
  by_cases hE : rfE I lv = 0
  · have e : nrV I lv u q = nrI I (levAt I lv) u q := by unfold nrV; rw [if_pos hE]
    rw [e, hE]
    exact nearest_good h hL hA hby lv u q hu hq hE
  · have e : nrV I lv u q = nul := by unfold nrV; rw [if_neg hE]
    rw [e]
    exact nearest_bad h hL hA lv u q hE
theorem linear_any (h : LR w v L) (hL : L.length ≤ 4000000000000) (hA : I.L = absL L) (hby : ∀ p ∈ L, Byt p.2.2.2) (lv u q : Int) (hu : I32 u) (hq : I32 q) :
    Calls Try.prog 8 #[.agg #[.int .i64 I.f, v, .int .i64 I.ws, .int .i64 I.wt, .int .i64 I.mn, .int .i64 I.mg], .int .i64 lv, .int .i32 u, .int .i32 q] w fun e w' => e = .returned (.tuple #[.agg #[.int .i32 ((lnV I lv u q) 0), .int .i32 ((lnV I lv u q) 1), .int .i32 ((lnV I lv u q) 2), .int .i32 ((lnV I lv u q) 3)], .int .i64 (rfE I lv)]) ∧ Ext w w' := by
  by_cases hE : rfE I lv = 0
  · have e : lnV I lv u q = lnI I (levAt I lv) u q := by unfold lnV; rw [if_pos hE]
    rw [e, hE]
    exact linear_good h hL hA hby lv u q hu hq hE
  · have e : lnV I lv u q = nul := by unfold lnV; rw [if_neg hE]
    rw [e]
    exact linear_bad h hL hA lv u q hE
end
end Go.Proofs.Ytadajaoidhbmgaa
