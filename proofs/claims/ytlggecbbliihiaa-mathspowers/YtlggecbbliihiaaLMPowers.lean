/-
  Proved: MathsPowers answers true for every two numbers: powers of 2, logarithms and powers of whatever number are what the document says. No condition.
-/
import Derived.Test.YtlggecbbliihiaaFr
import Derived.Test.YtlggecbbliihiaaMW
import Derived.Test.YtlggecbbliihiaaMY
namespace Go.Proofs.Ytlggecbbliihiaa
open Go.ChangeShapes Go.WideShapes Go.ChangeAt Go.RowKit
set_option linter.unusedVariables false

set_option maxHeartbeats 1000000 in
theorem powers_walk (x y : Int) (w : World) (hx : I32 x) (hy : I32 y) :
    Calls Try.prog 4 #[.int .i32 x, .int .i32 y] w fun e w' => e = .returned (.bool true) ∧ Ext w w' := by
  go_enter Try.func4, Try.ntmps4
  go_wp2_with fail
  refine (wakes_any _).mono ?_
  rintro e w1 ⟨rfl, hx1⟩
  have X := hide hx1
  clear hx1
  go_wp2_with fail
  refine (exp2_any _ _ hx).mono ?_
  rintro e w2 ⟨rfl, hx1⟩
  have X2 := hide ((unhide X).trans hx1)
  clear hx1
  go_wp2_with fail
  refine (refExp2_any _ _ hx).mono ?_
  rintro e w3 ⟨rfl, hx1⟩
  have X3 := hide ((unhide X2).trans hx1)
  clear hx1
  go_wp2_with fail
  refine (log2_any _ _ hx).mono ?_
  rintro e w4 ⟨rfl, m, rfl⟩
  go_wp2_with fail
  refine (refLog2_any _ _ hx).mono ?_
  rintro e w4 ⟨rfl, rfl⟩
  go_wp2_with fail
  refine (powOf_any _ _ _ hx hy).mono ?_
  rintro e w5 ⟨rfl, hx1⟩
  have X5 := hide (((unhide X3).drewN m).trans hx1)
  clear hx1
  go_wp2_with fail
  refine (refPowOf_any _ _ _ hx hy).mono ?_
  rintro e w6 ⟨rfl, hx1⟩
  have X6 := hide ((unhide X5).trans hx1)
  clear hx1
  go_wp2
  go_ret
  exact ⟨by simp, unhide X6⟩

theorem powers_owes (H : Type) (enc : TypeId × Value → H) (W : World) (base : Nat) (args : Array Value) (ds : List (DataW H)) (p : List MemPlace) : Owes H enc Try.prog 4 Try.f4 Rows.mathsPowersSpec W base args ds p := by
  intro hval hA hsz
  rw [Try.params4] at hA hval hsz
  obtain ⟨v0, vs0, d0, ds0, p0, q0, hargs, rfl, rfl, h0, r0⟩ := trodAll_cons hA
  obtain ⟨v1, vs1, d1, ds1, p1, q1, rfl, rfl, rfl, h1, r1⟩ := trodAll_cons r0
  obtain ⟨rfl, rfl, rfl⟩ := trodAll_nil r1
  obtain rfl : args = #[v0, v1] := by cases args; simp_all
  obtain ⟨x, rfl, rfl, rfl, wx⟩ := open_int Try.underlying23 (hval 0 23 v0 rfl rfl) h0
  obtain ⟨y, rfl, rfl, rfl, wy⟩ := open_int Try.underlying23 (hval 1 23 v1 rfl rfl) h1
  exact ⟨⟨rfl, rfl, rfl⟩, powers_walk x y W (bounds_i32 wx) (bounds_i32 wy)⟩

set_option maxRecDepth 100000 in
theorem powers_lifted (os : Os) (started : os.Started) (H : Type) (enc : TypeId × Value → H) :
    ReturnsInHanded {} Try.checked os 4 .any (Rows.mathsPowersSpec.pre6 enc Try.prog Try.f4 [] false) (Rows.mathsPowersSpec.post enc Try.prog Try.f4 false true false false) :=
  lift_law (C := Try.checked) own laidOut started (by kernel_rfl) Try.func4 (T := 4) rfl Try.underlying4 rfl (by kernel_rfl)
    (ChangeSpec.witness6 (enc := enc) (C := Try.checked) false ⟨#[], #[.int .i32 0, .int .i32 0], []⟩ 8 (by kernel_rfl) (by kernel_rfl) (by kernel_rfl) (by kernel_rfl)) (powers_owes H enc)

theorem mathsPowers_holds : Rows.MathsPowersSaid :=
  OpenClaim.holds_of_wide 4 Try.f4 rfl rfl rfl rfl rfl rfl rfl ⟨rfl, rfl, rfl, rfl, rfl⟩ rfl rfl rfl rfl rfl (by kernel_rfl) Try.func4 (by kernel_rfl)
    (of_decide_eq_true (by kernel_rfl)) (by unfold Func.isWrapper; rw [if_neg (of_decide_eq_false (by kernel_rfl))]; exact ⟨rfl, rfl⟩)
    (fun os started H enc _ => powers_lifted os started H enc)
#print axioms mathsPowers_holds
end Go.Proofs.Ytlggecbbliihiaa
