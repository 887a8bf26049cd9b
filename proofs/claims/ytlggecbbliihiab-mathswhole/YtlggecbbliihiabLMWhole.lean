/-
  Proved: MathsWhole answers true for every number: whole powers of 2 are just that, and their logarithms the numbers. No condition.
-/
import Derived.Test.YtlggecbbliihiabFr
import Derived.Test.YtlggecbbliihiabMW
namespace Go.Proofs.Ytlggecbbliihiab
open Go.ChangeShapes Go.WideShapes Go.ChangeAt Go.RowKit
set_option linter.unusedVariables false

theorem whole_exp : ∀ j : Nat, j < 31 → exp2I (((j : Int) - 16) * 65536) = 2 ^ j := by decide +kernel
theorem whole_log : ∀ j : Nat, j < 31 → log2I (2 ^ j) = ((j : Int) - 16) * 65536 := by decide +kernel

set_option maxHeartbeats 1000000 in
theorem whole_walk (n : Int) (w : World) :
    Calls Try.prog 3 #[.int .i64 n] w fun e w' => e = .returned (.bool true) ∧ Ext w w' := by
  obtain ⟨j, hj, hj31⟩ : ∃ j : Nat, (IntKind.u64.wrap n).tmod 31 = (j : Int) ∧ j < 31 := by
    have e : (IntKind.u64.wrap n).tmod 31 = n % 18446744073709551616 % 31 := by
      rw [IntKind.wrap_u64, Int.tmod_eq_emod_of_nonneg (by omega)]
    exact ⟨(n % 18446744073709551616 % 31).toNat, by omega, by omega⟩
  have HE := hide (whole_exp j hj31)
  have HL := hide (whole_log j hj31)
  have hp : (0 : Int) < 2 ^ j ∧ (2 : Int) ^ j ≤ 1073741824 := ⟨pow2_pos j, pow2_le (b := 30) (by omega)⟩
  go_enter Try.func3, Try.ntmps3
  go_wp2_with fail
  refine (wakes_any _).mono ?_
  rintro e w1 ⟨rfl, hx1⟩
  have X := hide hx1
  clear hx1
  go_wp2_with fail
  refine (exp2_any (((j : Int) - 16) * 65536) _ (by unfold I32; omega)).mono ?_
  rintro e w2 ⟨rfl, hx1⟩
  have X2 := hide ((unhide X).trans hx1)
  clear hx1
  rw [unhide HE]
  go_wp2_with fail
  refine (log2_any (2 ^ j) _ (by unfold I32; omega)).mono ?_
  rintro e w3 ⟨rfl, m, rfl⟩
  rw [unhide HL]
  go_wp2
  go_ret
  exact ⟨by simp, (unhide X2).drewN m⟩

theorem whole_owes (H : Type) (enc : TypeId × Value → H) (W : World) (base : Nat) (args : Array Value) (ds : List (DataW H)) (p : List MemPlace) : Owes H enc Try.prog 3 Try.f3 Rows.mathsWholeSpec W base args ds p := by
  intro hval hA hsz
  rw [Try.params3] at hA hval hsz
  obtain ⟨v0, vs0, d0, ds0, p0, q0, hargs, rfl, rfl, h0, r0⟩ := trodAll_cons hA
  obtain ⟨rfl, rfl, rfl⟩ := trodAll_nil r0
  obtain rfl : args = #[v0] := by cases args; simp_all
  obtain ⟨n, rfl, rfl, rfl, wn⟩ := open_int Try.underlying3 (hval 0 3 v0 rfl rfl) h0
  exact ⟨⟨rfl, rfl, rfl⟩, whole_walk n W⟩

set_option maxRecDepth 100000 in
theorem whole_lifted (os : Os) (started : os.Started) (H : Type) (enc : TypeId × Value → H) :
    ReturnsInHanded {} Try.checked os 3 .any (Rows.mathsWholeSpec.pre6 enc Try.prog Try.f3 [] false) (Rows.mathsWholeSpec.post enc Try.prog Try.f3 false true false false) :=
  lift_law (C := Try.checked) own laidOut started (by kernel_rfl) Try.func3 (T := 4) rfl Try.underlying4 rfl (by kernel_rfl)
    (ChangeSpec.witness6 (enc := enc) (C := Try.checked) false ⟨#[], #[.int .i64 0], []⟩ 8 (by kernel_rfl) (by kernel_rfl) (by kernel_rfl) (by kernel_rfl)) (whole_owes H enc)

theorem mathsWhole_holds : Rows.MathsWholeSaid :=
  OpenClaim.holds_of_wide 3 Try.f3 rfl rfl rfl rfl rfl rfl rfl ⟨rfl, rfl, rfl, rfl, rfl⟩ rfl rfl rfl rfl rfl (by kernel_rfl) Try.func3 (by kernel_rfl)
    (of_decide_eq_true (by kernel_rfl)) (by unfold Func.isWrapper; rw [if_neg (of_decide_eq_false (by kernel_rfl))]; exact ⟨rfl, rfl⟩)
    (fun os started H enc _ => whole_lifted os started H enc)
#print axioms mathsWhole_holds
end Go.Proofs.Ytlggecbbliihiab
