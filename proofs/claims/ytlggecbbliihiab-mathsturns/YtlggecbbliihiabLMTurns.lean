/-
  Proved: MathsTurns answers true for every number: sines turn with their number's sign, and with the cosine lie on the circle, nearly. No condition.
-/
import Derived.Test.YtlggecbbliihiabFr
import Derived.Test.YtlggecbbliihiabMW
import Derived.Test.YtlggecbbliihiabMT
namespace Go.Proofs.Ytlggecbbliihiab
open Go.ChangeShapes Go.WideShapes Go.ChangeAt Go.RowKit
set_option linter.unusedVariables false

set_option maxHeartbeats 1000000 in
theorem turns_walk (x : Int) (w : World) (hx : I32 x) :
    Calls Try.prog 4 #[.int .i32 x] w fun e w' => e = .returned (.bool true) ∧ Ext w w' := by
  have hs := sineI_bounds (phaseI x)
  rw [show sineI (phaseI x) = sinI x from rfl] at hs
  have hc := sineI_bounds ((phaseI x + 1073741824) % 4294967296)
  rw [show sineI ((phaseI x + 1073741824) % 4294967296) = cosI x from rfl] at hc
  have hm := sineI_bounds (phaseI (-x))
  rw [show sineI (phaseI (-x)) = sinI (-x) from rfl] at hm
  have ht := sin_turns x
  have hq := sin_circle x
  have HX := hide hx
  unfold I32 at hx
  go_enter Try.func4, Try.ntmps4
  go_wp2_with fail
  refine (wakes_any _).mono ?_
  rintro e w1 ⟨rfl, hx1⟩
  have X := hide hx1
  clear hx1
  go_wp2_with fail
  refine (sin_any _ _ (unhide HX)).mono ?_
  rintro e w2 ⟨rfl, rfl⟩
  go_wp2_with fail
  refine (cos_any _ _ (unhide HX)).mono ?_
  rintro e w2 ⟨rfl, rfl⟩
  generalize sinI x = s at *
  generalize cosI x = c at *
  have m1 : 0 ≤ s * s := by
    rcases Int.le_total 0 s with h | h
    · exact Int.mul_nonneg h h
    · exact Int.mul_nonneg_of_nonpos_of_nonpos h h
  have m2 : 0 ≤ c * c := by
    rcases Int.le_total 0 c with h | h
    · exact Int.mul_nonneg h h
    · exact Int.mul_nonneg_of_nonpos_of_nonpos h h
  have t1 : decide (s < -65536) = false := by simp; omega
  have t2 : decide (65536 < s) = false := by simp; omega
  have t3 : decide (c < -65536) = false := by simp; omega
  have t4 : decide (65536 < c) = false := by simp; omega
  by_cases h0 : -2147483648 < x
  · have d0 : decide (-2147483648 < x) = true := by simp; omega
    go_wp2_with fail
    refine (sin_any (-x) _ (by unfold I32; omega)).mono ?_
    rintro e w2 ⟨rfl, rfl⟩
    generalize sinI (-x) = v at *
    have t5 : decide (2 < s + v) = false := by simp; omega
    have t6 : decide (s + v < -2) = false := by simp; omega
    go_wp2
    go_ret
    exact ⟨by simp; omega, unhide X⟩
  · have d0 : decide (-2147483648 < x) = false := by simp; omega
    go_wp2
    go_ret
    exact ⟨by simp; omega, unhide X⟩

theorem turns_owes (H : Type) (enc : TypeId × Value → H) (W : World) (base : Nat) (args : Array Value) (ds : List (DataW H)) (p : List MemPlace) : Owes H enc Try.prog 4 Try.f4 Rows.mathsTurnsSpec W base args ds p := by
  intro hval hA hsz
  rw [Try.params4] at hA hval hsz
  obtain ⟨v0, vs0, d0, ds0, p0, q0, hargs, rfl, rfl, h0, r0⟩ := trodAll_cons hA
  obtain ⟨rfl, rfl, rfl⟩ := trodAll_nil r0
  obtain rfl : args = #[v0] := by cases args; simp_all
  obtain ⟨x, rfl, rfl, rfl, wx⟩ := open_int Try.underlying24 (hval 0 24 v0 rfl rfl) h0
  exact ⟨⟨rfl, rfl, rfl⟩, turns_walk x W (bounds_i32 wx)⟩

set_option maxRecDepth 100000 in
theorem turns_lifted (os : Os) (started : os.Started) (H : Type) (enc : TypeId × Value → H) :
    ReturnsInHanded {} Try.checked os 4 .any (Rows.mathsTurnsSpec.pre6 enc Try.prog Try.f4 [] false) (Rows.mathsTurnsSpec.post enc Try.prog Try.f4 false true false false) :=
  lift_law (C := Try.checked) own laidOut started (by kernel_rfl) Try.func4 (T := 4) rfl Try.underlying4 rfl (by kernel_rfl)
    (ChangeSpec.witness6 (enc := enc) (C := Try.checked) false ⟨#[], #[.int .i32 0], []⟩ 8 (by kernel_rfl) (by kernel_rfl) (by kernel_rfl) (by kernel_rfl)) (turns_owes H enc)

theorem mathsTurns_holds : Rows.MathsTurnsSaid :=
  OpenClaim.holds_of_wide 4 Try.f4 rfl rfl rfl rfl rfl rfl rfl ⟨rfl, rfl, rfl, rfl, rfl⟩ rfl rfl rfl rfl rfl (by kernel_rfl) Try.func4 (by kernel_rfl)
    (of_decide_eq_true (by kernel_rfl)) (by unfold Func.isWrapper; rw [if_neg (of_decide_eq_false (by kernel_rfl))]; exact ⟨rfl, rfl⟩)
    (fun os started H enc _ => turns_lifted os started H enc)
#print axioms mathsTurns_holds
end Go.Proofs.Ytlggecbbliihiab
