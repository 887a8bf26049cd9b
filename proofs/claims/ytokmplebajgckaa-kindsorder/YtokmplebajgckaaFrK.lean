/-
  Types that came in: one, three, and rows.
-/
import Derived.Test.YtokmplebajgckaaKC
import Derived.Test.YtokmplebajgckaaFr
import Derived.Deep.Slices
import Derived.ChangeMaps5
namespace Go.Proofs.Ytokmplebajgckaa
open Go.ChangeShapes Go.WideShapes Go.ChangeAt Go.RowKit
open Go.ChangeMaps (open_string)
set_option linter.unusedVariables false
set_option linter.unusedSimpArgs false

theorem ba_back (s : ByteArray) : (⟨s.data.toList.toArray⟩ : ByteArray) = s := by cases s; simp
theorem array2 {α : Type} {cs : Array α} (h : cs.size = 2) : ∃ c0 c1, cs = #[c0, c1] := by
  obtain ⟨l⟩ := cs
  match l, h with
  | [c0, c1], _ => exact ⟨c0, c1, rfl⟩
section
variable {H : Type} {enc : TypeId × Value → H}
set_option maxRecDepth 100000 in
theorem two_ints {W : World} {fuel : Nat} {c0 c1 : Value} {y : DataW H × List MemPlace} (hi : Try.prog.cellsOf 3 = 1) (hf : DataW.trod enc Try.prog W 0 (fun _ => true) true fuel 23 [c0, c1] = some y) :
    ∃ t : Ty, c0 = .int .i64 t.1 ∧ c1 = .int .i64 t.2 := by
  obtain ⟨y0, y1, n, hx, hlen, h0, h1⟩ := trod_struct2 Try.underlying23 hf
  simp only [hi] at h0 h1
  have t0 : DataW.trod enc Try.prog W 0 (fun _ => true) true n 3 [c0] = some y0 := h0
  have t1 : DataW.trod enc Try.prog W 0 (fun _ => true) true n 3 [c1] = some y1 := h1
  obtain ⟨A, e0, _, k0⟩ := DataW.trod_int Try.underlying3 t0
  obtain ⟨B, e1, _, k1⟩ := DataW.trod_int Try.underlying3 t1
  simp only [List.cons.injEq, and_true] at e0 e1
  subst e0 e1
  exact ⟨⟨A, B⟩, rfl, rfl⟩
set_option maxRecDepth 100000 in
theorem open_ty {W : World} {base : Nat} {v : Value} {d : DataW H} {p : List MemPlace} (hv : Value.okWide Try.prog W .any base 23 v) (h : DataW.Trod enc Try.prog W 0 (fun _ => true) true 23 v d p) :
    ∃ t : Ty, v = .agg #[.int .i64 (t).1, .int .i64 (t).2] := by
  obtain ⟨cs, rfl, hsz⟩ := okWide_struct Try.underlying23 hv
  rw [show Try.prog.cellsOf 23 = 2 by kernel_rfl] at hsz
  obtain ⟨c0, c1, rfl⟩ := array2 hsz
  obtain ⟨fuel, hf⟩ := h
  obtain ⟨t, rfl, rfl⟩ := two_ints (by kernel_rfl) hf
  exact ⟨t, rfl⟩
end
end Go.Proofs.Ytokmplebajgckaa
