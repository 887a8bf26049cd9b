/-
  Proved: MathsRises answers true for every two numbers: roots, powers and logarithms are never less for a greater number. No condition.
-/
import Derived.Test.YtlggecbbliihiaaFr
import Derived.Test.YtlggecbbliihiaaMW
namespace Go.Proofs.Ytlggecbbliihiaa
open Go.ChangeShapes Go.WideShapes Go.ChangeAt Go.RowKit
set_option linter.unusedVariables false

theorem rawI_mono {a b : Int} (h : a ≤ b) : rawI a ≤ rawI b := by unfold rawI clampI; omega
theorem sqrtI_mono {a b : Int} (h : a ≤ b) : sqrtI a ≤ sqrtI b := by
  unfold sqrtI
  by_cases h0 : a ≤ 0
  · rw [if_pos h0]
    split
    · omega
    · have := rootI_nonneg (n := b * 65536) (by omega)
      unfold rawI clampI
      omega
  · rw [if_neg h0, if_neg (by omega)]
    exact rawI_mono (rootI_mono (by omega) (by omega))
theorem quo_anti {n a b : Int} (hn : 0 ≤ n) (ha : 0 < a) (h : a ≤ b) : n / b ≤ n / a := by
  refine (Int.le_ediv_iff_mul_le ha).2 ?_
  have h1 : n / b * a ≤ n / b * b := Int.mul_le_mul_of_nonneg_left h (Int.ediv_nonneg hn (by omega))
  have h2 : n / b * b ≤ n := Int.ediv_mul_le n (by omega)
  omega
theorem invI_anti {a b : Int} (ha : 0 < a) (h : a ≤ b) : invI b ≤ invI a := by
  unfold invI
  rw [if_neg (by omega), if_neg (by omega)]
  exact rawI_mono (rootI_mono (Int.ediv_nonneg (by omega) (by omega)) (quo_anti (by omega) ha h))

set_option maxHeartbeats 2000000 in
theorem rises_walk (a b : Int) (w : World) (ha : I32 a) (hb : I32 b) :
    Calls Try.prog 7 #[.int .i32 a, .int .i32 b] w fun e w' => e = .returned (.bool true) ∧ Ext w w' := by
  have HA := hide ha
  have HB := hide hb
  unfold I32 at ha hb
  go_enter Try.func7, Try.ntmps7
  go_wp2_with fail
  refine (wakes_any _).mono ?_
  rintro e w1 ⟨rfl, hx1⟩
  have X := hide hx1
  clear hx1
  by_cases c : b < a
  · have d0 : decide (b < a) = true := by simp; omega
    have hle : b ≤ a := by omega
    have m1 := sqrtI_mono hle
    have m2 := exp2I_mono hle
    have m3 := log2I_mono hle (unhide HB) (unhide HA)
    have d1 : decide (sqrtI b ≤ sqrtI a) = true := by simp; omega
    have d2 : decide (exp2I b ≤ exp2I a) = true := by simp; omega
    have d3 : decide (log2I b ≤ log2I a) = true := by simp; omega
    clear m1 m2 m3
    go_wp2_with fail
    refine (sqrt_any _ _ (unhide HB)).mono ?_
    rintro e w2 ⟨rfl, rfl⟩
    go_wp2_with fail
    refine (sqrt_any _ _ (unhide HA)).mono ?_
    rintro e w2 ⟨rfl, rfl⟩
    go_wp2_with fail
    refine (exp2_any _ _ (unhide HB)).mono ?_
    rintro e w3 ⟨rfl, hx⟩
    have X3 := hide ((unhide X).trans hx)
    clear hx
    go_wp2_with fail
    refine (exp2_any _ _ (unhide HA)).mono ?_
    rintro e w4 ⟨rfl, hx⟩
    have X4 := hide ((unhide X3).trans hx)
    clear hx
    go_wp2_with fail
    refine (log2_any _ _ (unhide HB)).mono ?_
    rintro e w5 ⟨rfl, m5, rfl⟩
    go_wp2_with fail
    refine (log2_any _ _ (unhide HA)).mono ?_
    rintro e w6 ⟨rfl, m6, rfl⟩
    have X6 := hide ((unhide X4).drewN (m5 + m6))
    clear X X3 X4
    have m4 : invI (max a 1) ≤ invI (max b 1) := invI_anti (by omega) (by omega)
    have d4 : decide (invI (max a 1) ≤ invI (max b 1)) = true := by simp; omega
    clear m4
    go_wp2_with fail
    refine (invSqrt_any _ _ (by unfold I32; omega)).mono ?_
    rintro e w7 ⟨rfl, rfl⟩
    go_wp2_with fail
    refine (invSqrt_any _ _ (by unfold I32; omega)).mono ?_
    rintro e w7 ⟨rfl, rfl⟩
    go_wp2
    go_ret
    exact ⟨by simp, unhide X6⟩
  · have d0 : decide (b < a) = false := by simp; omega
    have hle : a ≤ b := by omega
    have m1 := sqrtI_mono hle
    have m2 := exp2I_mono hle
    have m3 := log2I_mono hle (unhide HA) (unhide HB)
    have d1 : decide (sqrtI a ≤ sqrtI b) = true := by simp; omega
    have d2 : decide (exp2I a ≤ exp2I b) = true := by simp; omega
    have d3 : decide (log2I a ≤ log2I b) = true := by simp; omega
    clear m1 m2 m3
    go_wp2_with fail
    refine (sqrt_any _ _ (unhide HA)).mono ?_
    rintro e w2 ⟨rfl, rfl⟩
    go_wp2_with fail
    refine (sqrt_any _ _ (unhide HB)).mono ?_
    rintro e w2 ⟨rfl, rfl⟩
    go_wp2_with fail
    refine (exp2_any _ _ (unhide HA)).mono ?_
    rintro e w3 ⟨rfl, hx⟩
    have X3 := hide ((unhide X).trans hx)
    clear hx
    go_wp2_with fail
    refine (exp2_any _ _ (unhide HB)).mono ?_
    rintro e w4 ⟨rfl, hx⟩
    have X4 := hide ((unhide X3).trans hx)
    clear hx
    go_wp2_with fail
    refine (log2_any _ _ (unhide HA)).mono ?_
    rintro e w5 ⟨rfl, m5, rfl⟩
    go_wp2_with fail
    refine (log2_any _ _ (unhide HB)).mono ?_
    rintro e w6 ⟨rfl, m6, rfl⟩
    have X6 := hide ((unhide X4).drewN (m5 + m6))
    clear X X3 X4
    have m4 : invI (max b 1) ≤ invI (max a 1) := invI_anti (by omega) (by omega)
    have d4 : decide (invI (max b 1) ≤ invI (max a 1)) = true := by simp; omega
    clear m4
    go_wp2_with fail
    refine (invSqrt_any _ _ (by unfold I32; omega)).mono ?_
    rintro e w7 ⟨rfl, rfl⟩
    go_wp2_with fail
    refine (invSqrt_any _ _ (by unfold I32; omega)).mono ?_
    rintro e w7 ⟨rfl, rfl⟩
    go_wp2
    go_ret
    exact ⟨by simp, unhide X6⟩

theorem rises_owes (H : Type) (enc : TypeId × Value → H) (W : World) (base : Nat) (args : Array Value) (ds : List (DataW H)) (p : List MemPlace) : Owes H enc Try.prog 7 Try.f7 Rows.mathsRisesSpec W base args ds p := by
  intro hval hA hsz
  rw [Try.params7] at hA hval hsz
  obtain ⟨v0, vs0, d0, ds0, p0, q0, hargs, rfl, rfl, h0, r0⟩ := trodAll_cons hA
  obtain ⟨v1, vs1, d1, ds1, p1, q1, rfl, rfl, rfl, h1, r1⟩ := trodAll_cons r0
  obtain ⟨rfl, rfl, rfl⟩ := trodAll_nil r1
  obtain rfl : args = #[v0, v1] := by cases args; simp_all
  obtain ⟨a, rfl, rfl, rfl, wa⟩ := open_int Try.underlying23 (hval 0 23 v0 rfl rfl) h0
  obtain ⟨b, rfl, rfl, rfl, wb⟩ := open_int Try.underlying23 (hval 1 23 v1 rfl rfl) h1
  exact ⟨⟨rfl, rfl, rfl⟩, rises_walk a b W (bounds_i32 wa) (bounds_i32 wb)⟩

set_option maxRecDepth 100000 in
theorem rises_lifted (os : Os) (started : os.Started) (H : Type) (enc : TypeId × Value → H) :
    ReturnsInHanded {} Try.checked os 7 .any (Rows.mathsRisesSpec.pre6 enc Try.prog Try.f7 [] false) (Rows.mathsRisesSpec.post enc Try.prog Try.f7 false true false false) :=
  lift_law (C := Try.checked) own laidOut started (by kernel_rfl) Try.func7 (T := 4) rfl Try.underlying4 rfl (by kernel_rfl)
    (ChangeSpec.witness6 (enc := enc) (C := Try.checked) false ⟨#[], #[.int .i32 0, .int .i32 0], []⟩ 8 (by kernel_rfl) (by kernel_rfl) (by kernel_rfl) (by kernel_rfl)) (rises_owes H enc)

theorem mathsRises_holds : Rows.MathsRisesSaid :=
  OpenClaim.holds_of_wide 7 Try.f7 rfl rfl rfl rfl rfl rfl rfl ⟨rfl, rfl, rfl, rfl, rfl⟩ rfl rfl rfl rfl rfl (by kernel_rfl) Try.func7 (by kernel_rfl)
    (of_decide_eq_true (by kernel_rfl)) (by unfold Func.isWrapper; rw [if_neg (of_decide_eq_false (by kernel_rfl))]; exact ⟨rfl, rfl⟩)
    (fun os started H enc _ => rises_lifted os started H enc)
#print axioms mathsRises_holds
end Go.Proofs.Ytlggecbbliihiaa
