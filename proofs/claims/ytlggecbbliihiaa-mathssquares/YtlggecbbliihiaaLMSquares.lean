/-
  Proved: MathsSquares answers true for every two numbers: a root is the greatest number whose square is not above. No condition.
-/
import Derived.Test.YtlggecbbliihiaaFr
import Derived.Test.YtlggecbbliihiaaMW
namespace Go.Proofs.Ytlggecbbliihiaa
open Go.ChangeShapes Go.WideShapes Go.ChangeAt Go.RowKit
set_option linter.unusedVariables false

theorem sqrtI_is {x : Int} (h : 0 < x) (h2 : x ≤ 2147483647) : IsRoot (x * 65536) (sqrtI x) ∧ sqrtI x ≤ 16777216 := by
  have hs := root_small h h2
  have e : sqrtI x = rootI (x * 65536) := by
    unfold sqrtI
    rw [if_neg (by omega)]
    exact rawI_id (by unfold I32; omega)
  rw [e]
  exact ⟨rootI_spec (by omega), hs.2⟩

set_option maxHeartbeats 1000000 in
theorem squares_walk (n x : Int) (w : World) (h0 : 0 ≤ n) (h1 : n ≤ 18446744073709551615) (hx : I32 x) :
    Calls Try.prog 8 #[.int .u64 n, .int .i32 x] w fun e w' => e = .returned (.bool true) ∧ Ext w w' := by
  have hb := rootI_u32 h0 h1
  obtain ⟨q0, q1, q2⟩ := rootI_spec h0
  have HX := hide hx
  unfold I32 at hx
  go_enter Try.func8, Try.ntmps8
  go_wp2_with fail
  refine (wakes_any _).mono ?_
  rintro e w1 ⟨rfl, hx1⟩
  have X := hide hx1
  clear hx1
  go_wp2_with fail
  refine (root_any _ _ h0 h1).mono ?_
  rintro e w2 ⟨rfl, rfl⟩
  generalize rootI n = r at *
  have t1 : decide (n < r * r) = false := by simp; omega
  have m0 : 0 ≤ r * r := Int.mul_nonneg q0 q0
  -- the first test
  have step : ∀ (P : Prop), (∀ (hr : r < 4294967295), 0 ≤ (r + 1) * (r + 1) → (r + 1) * (r + 1) < 18446744073709551616 → P) → (¬ r < 4294967295 → P) → P := by
    intro P f g
    by_cases h : r < 4294967295
    · exact f h (Int.mul_nonneg (by omega) (by omega)) (by have := sq_lt (a := r + 1) (b := 4294967296) (by omega) (by omega); omega)
    · exact g h
  refine step _ (fun hr m1 m2 => ?_) (fun hr => ?_)
  · have t2 : decide (r < 4294967295) = true := by simp; omega
    have t3 : decide ((r + 1) * (r + 1) ≤ n) = false := by simp; omega
    go_wp2_with fail
    refine (sqrt_any _ _ (unhide HX)).mono ?_
    rintro e w2 ⟨rfl, rfl⟩
    clear t1 t2 t3 m0 m1 m2 q0 q1 q2 hb h0 h1 step
    by_cases c : x ≤ 0
    · have hs : sqrtI x = 0 := by simp [sqrtI, c]
      rw [hs]
      go_wp2
      go_ret
      exact ⟨by simp, unhide X⟩
    · obtain ⟨⟨s0, s1, s2⟩, s3⟩ := sqrtI_is (x := x) (by omega) (by omega)
      generalize sqrtI x = s at *
      have m0 : 0 ≤ s * s := Int.mul_nonneg s0 s0
      have m1 : 0 ≤ (s + 1) * (s + 1) := Int.mul_nonneg (by omega) (by omega)
      have m2 : (s + 1) * (s + 1) ≤ 281475010265089 := sq_le (a := s + 1) (b := 16777217) (by omega) (by omega)
      have t0 : decide (x ≤ 0) = false := by simp; omega
      have t1 : decide (0 < x) = true := by simp; omega
      have t2 : decide (s * s ≤ x * 65536) = true := by simp; omega
      have t3 : decide (x * 65536 < (s + 1) * (s + 1)) = true := by simp; omega
      go_wp2
      go_ret
      exact ⟨by simp, unhide X⟩
  · have t2 : decide (r < 4294967295) = false := by simp; omega
    go_wp2_with fail
    refine (sqrt_any _ _ (unhide HX)).mono ?_
    rintro e w2 ⟨rfl, rfl⟩
    clear t1 t2 m0 q0 q1 q2 hb h0 h1 step
    by_cases c : x ≤ 0
    · have hs : sqrtI x = 0 := by simp [sqrtI, c]
      rw [hs]
      go_wp2
      go_ret
      exact ⟨by simp, unhide X⟩
    · obtain ⟨⟨s0, s1, s2⟩, s3⟩ := sqrtI_is (x := x) (by omega) (by omega)
      generalize sqrtI x = s at *
      have m0 : 0 ≤ s * s := Int.mul_nonneg s0 s0
      have m1 : 0 ≤ (s + 1) * (s + 1) := Int.mul_nonneg (by omega) (by omega)
      have m2 : (s + 1) * (s + 1) ≤ 281475010265089 := sq_le (a := s + 1) (b := 16777217) (by omega) (by omega)
      have t0 : decide (x ≤ 0) = false := by simp; omega
      have t1 : decide (0 < x) = true := by simp; omega
      have t2 : decide (s * s ≤ x * 65536) = true := by simp; omega
      have t3 : decide (x * 65536 < (s + 1) * (s + 1)) = true := by simp; omega
      go_wp2
      go_ret
      exact ⟨by simp, unhide X⟩

theorem squares_owes (H : Type) (enc : TypeId × Value → H) (W : World) (base : Nat) (args : Array Value) (ds : List (DataW H)) (p : List MemPlace) : Owes H enc Try.prog 8 Try.f8 Rows.mathsSquaresSpec W base args ds p := by
  intro hval hA hsz
  rw [Try.params8] at hA hval hsz
  obtain ⟨v0, vs0, d0, ds0, p0, q0, hargs, rfl, rfl, h0, r0⟩ := trodAll_cons hA
  obtain ⟨v1, vs1, d1, ds1, p1, q1, rfl, rfl, rfl, h1, r1⟩ := trodAll_cons r0
  obtain ⟨rfl, rfl, rfl⟩ := trodAll_nil r1
  obtain rfl : args = #[v0, v1] := by cases args; simp_all
  obtain ⟨n, rfl, rfl, rfl, wn⟩ := open_int Try.underlying22 (hval 0 22 v0 rfl rfl) h0
  obtain ⟨x, rfl, rfl, rfl, wx⟩ := open_int Try.underlying23 (hval 1 23 v1 rfl rfl) h1
  exact ⟨⟨rfl, rfl, rfl⟩, squares_walk n x W (bounds_u64 wn).1 (bounds_u64 wn).2 (bounds_i32 wx)⟩

set_option maxRecDepth 100000 in
theorem squares_lifted (os : Os) (started : os.Started) (H : Type) (enc : TypeId × Value → H) :
    ReturnsInHanded {} Try.checked os 8 .any (Rows.mathsSquaresSpec.pre6 enc Try.prog Try.f8 [] false) (Rows.mathsSquaresSpec.post enc Try.prog Try.f8 false true false false) :=
  lift_law (C := Try.checked) own laidOut started (by kernel_rfl) Try.func8 (T := 4) rfl Try.underlying4 rfl (by kernel_rfl)
    (ChangeSpec.witness6 (enc := enc) (C := Try.checked) false ⟨#[], #[.int .u64 0, .int .i32 0], []⟩ 8 (by kernel_rfl) (by kernel_rfl) (by kernel_rfl) (by kernel_rfl)) (squares_owes H enc)

theorem mathsSquares_holds : Rows.MathsSquaresSaid :=
  OpenClaim.holds_of_wide 8 Try.f8 rfl rfl rfl rfl rfl rfl rfl ⟨rfl, rfl, rfl, rfl, rfl⟩ rfl rfl rfl rfl rfl (by kernel_rfl) Try.func8 (by kernel_rfl)
    (of_decide_eq_true (by kernel_rfl)) (by unfold Func.isWrapper; rw [if_neg (of_decide_eq_false (by kernel_rfl))]; exact ⟨rfl, rfl⟩)
    (fun os started H enc _ => squares_lifted os started H enc)
#print axioms mathsSquares_holds
end Go.Proofs.Ytlggecbbliihiaa
