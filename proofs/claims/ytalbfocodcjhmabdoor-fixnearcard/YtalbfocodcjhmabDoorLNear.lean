/-
  Proved: FixNear answers true for every two numbers: a product and a quotient are off by half a raw at most, where nothing is too great. Its tables of the library (the powers of ten) hold what the program's text lays. No other condition.
-/
import Derived.Test.YtalbfocodcjhmabDoorFrL
import Derived.Test.YtalbfocodcjhmabDoorFxW
namespace Go.Proofs.YtalbfocodcjhmabDoor
open Go.ChangeShapes Go.WideShapes Go.ChangeAt Go.RowKit
set_option linter.unusedVariables false
set_option linter.unusedSimpArgs false

theorem rawI_mid {n : Int} (h1 : rawI n < 2147483647) (h2 : -2147483648 < rawI n) : rawI n = n := by unfold rawI clampI at *; omega
theorem mul_near (a b : Int) (h1 : mulI a b < 2147483647) (h2 : -2147483648 < mulI a b) : -32768 ≤ mulI a b * 65536 - a * b ∧ mulI a b * 65536 - a * b ≤ 32768 := by
  unfold mulI at *
  rw [rawI_mid h1 h2]
  omega
theorem near_off (x y : Int) (hy : 0 < y) : -y ≤ 2 * ((x * 65536 + y / 2) / y * y - x * 65536) ∧ 2 * ((x * 65536 + y / 2) / y * y - x * 65536) ≤ y := by
  have h1 : y * ((x * 65536 + y / 2) / y) + (x * 65536 + y / 2) % y = x * 65536 + y / 2 := Int.mul_ediv_add_emod _ _
  have h2 := Int.emod_lt_of_pos (x * 65536 + y / 2) hy
  have h3 := Int.emod_nonneg (x * 65536 + y / 2) (by omega : y ≠ 0)
  rw [Int.mul_comm] at h1
  generalize (x * 65536 + y / 2) / y * y = q at *
  omega
theorem div_near (a b : Int) (hb : b ≠ 0) (h1 : divI a b < 2147483647) (h2 : -2147483648 < divI a b) : -(b.natAbs : Int) ≤ 2 * (divI a b * b - a * 65536) ∧ 2 * (divI a b * b - a * 65536) ≤ (b.natAbs : Int) := by
  have hn := near_off (a.natAbs : Int) (b.natAbs : Int) (by omega)
  simp only [divI, hb, if_false] at *
  rw [rawI_mid h1 h2]
  clear h1 h2
  unfold nearI
  generalize ((a.natAbs : Int) * 65536 + (b.natAbs : Int) / 2) / (b.natAbs : Int) = q at *
  by_cases ha : a < 0 <;> by_cases hb2 : b < 0
  · have e1 : (a.natAbs : Int) = -a := by omega
    have e2 : (b.natAbs : Int) = -b := by omega
    simp only [ha, hb2, e1, e2, if_true, Int.mul_neg, Int.neg_mul] at *
    generalize q * b = z at *
    omega
  · have e1 : (a.natAbs : Int) = -a := by omega
    have e2 : (b.natAbs : Int) = b := by omega
    simp only [ha, hb2, e1, e2, decide_true, decide_false, Bool.true_eq_false, Bool.false_eq_true, if_false, Int.mul_neg, Int.neg_mul] at *
    generalize q * b = z at *
    omega
  · have e1 : (a.natAbs : Int) = a := by omega
    have e2 : (b.natAbs : Int) = -b := by omega
    simp only [ha, hb2, e1, e2, decide_true, decide_false, Bool.true_eq_false, Bool.false_eq_true, if_false, Int.mul_neg, Int.neg_mul] at *
    generalize q * b = z at *
    omega
  · have e1 : (a.natAbs : Int) = a := by omega
    have e2 : (b.natAbs : Int) = b := by omega
    simp only [ha, hb2, e1, e2, if_true, Int.mul_neg, Int.neg_mul] at *
    generalize q * b = z at *
    omega

set_option maxHeartbeats 1000000 in
theorem near_walk (a b : Int) (w : World) (ha : I32 a) (hb : I32 b) (hT : Tab w) :
    Calls Tryd.prog 4 #[.int .i32 a, .int .i32 b] w fun e w' => e = .returned (.bool true) ∧ Ext w w' := by
  have hab := mul_i32 ha hb
  have hM := mulI_i32 a b
  have hMn := mul_near a b
  have hD := divI_i32 a b
  have hDn := div_near a b
  have hDb := mul_i32 hD hb
  go_enter Tryd.func4, Tryd.ntmps4
  go_wp2_with fail
  refine (wakes_any _ hT).mono ?_
  rintro e w1 ⟨rfl, hx1⟩
  have X := hide hx1
  clear hx1
  have HA := hide ha
  have HB := hide hb
  have HMn := hide hMn
  have HDn := hide hDn
  clear hMn hDn
  unfold I32 at ha hb hM hD
  go_wp2_with fail
  refine (mul_any _ _ _ (unhide HA) (unhide HB)).mono ?_
  rintro e w1 ⟨rfl, rfl⟩
  generalize hMe : mulI a b = M at *
  have HMe := hide hMe
  clear hMe
  go_wp2_with fail
  refine (mul_any _ _ _ (unhide HA) (unhide HB)).mono ?_
  rintro e w1 ⟨rfl, rfl⟩
  rw [unhide HMe]
  by_cases c1 : M < 2147483647
  · have t1 : decide (M < 2147483647) = true := by simp; omega
    by_cases c2 : -2147483648 < M
    · have t2 : decide (-2147483648 < M) = true := by simp; omega
      have hm := unhide HMn c1 c2
      have t3 : decide (32768 < M * 65536 - a * b) = false := by simp; omega
      have t4 : decide (M * 65536 - a * b < -32768) = false := by simp; omega
      by_cases hb0 : b = 0
      · subst hb0
        try simp only [Int.mul_zero, Int.sub_zero] at t3 t4 hm
        go_wp2
        go_ret
        exact ⟨by simp, unhide X⟩
      · have tb : (b == 0) = false := by simp; omega
        go_wp2_with fail
        refine (div_any _ _ _ (unhide HA) (unhide HB)).mono ?_
        rintro e w1 ⟨rfl, rfl⟩
        generalize divI a b = D at *
        by_cases hneg : b < 0
        · have hbe : (b.natAbs : Int) = -b := by omega
          have db : decide (b < 0) = true := by simp; omega
          by_cases k1 : 2147483647 ≤ D
          · have q1 : decide (2147483647 ≤ D) = true := by simp; omega
            go_wp2
            go_ret
            exact ⟨by simp, unhide X⟩
          · have q1 : decide (2147483647 ≤ D) = false := by simp; omega
            by_cases k2 : D ≤ -2147483648
            · have q2 : decide (D ≤ -2147483648) = true := by simp; omega
              go_wp2
              go_ret
              exact ⟨by simp, unhide X⟩
            · have q2 : decide (D ≤ -2147483648) = false := by simp; omega
              have hd := unhide HDn hb0 (by omega) (by omega)
              rw [hbe] at hd
              have q3 : decide (2 * (D * b - a * 65536) ≤ -b) = true := by simp; omega
              have q4 : decide (b ≤ 2 * (D * b - a * 65536)) = true := by simp; omega
              go_wp2
              go_ret
              exact ⟨by simp, unhide X⟩
        · have hbe : (b.natAbs : Int) = b := by omega
          have db : decide (b < 0) = false := by simp; omega
          by_cases k1 : 2147483647 ≤ D
          · have q1 : decide (2147483647 ≤ D) = true := by simp; omega
            go_wp2
            go_ret
            exact ⟨by simp, unhide X⟩
          · have q1 : decide (2147483647 ≤ D) = false := by simp; omega
            by_cases k2 : D ≤ -2147483648
            · have q2 : decide (D ≤ -2147483648) = true := by simp; omega
              go_wp2
              go_ret
              exact ⟨by simp, unhide X⟩
            · have q2 : decide (D ≤ -2147483648) = false := by simp; omega
              have hd := unhide HDn hb0 (by omega) (by omega)
              rw [hbe] at hd
              have q3 : decide (2 * (D * b - a * 65536) ≤ b) = true := by simp; omega
              have q4 : decide (-b ≤ 2 * (D * b - a * 65536)) = true := by simp; omega
              go_wp2
              go_ret
              exact ⟨by simp, unhide X⟩
    · have t2 : decide (-2147483648 < M) = false := by simp; omega
      by_cases hb0 : b = 0
      · subst hb0
        try simp only [Int.mul_zero, Int.sub_zero] at t3 t4 hm
        go_wp2
        go_ret
        exact ⟨by simp, unhide X⟩
      · have tb : (b == 0) = false := by simp; omega
        go_wp2_with fail
        refine (div_any _ _ _ (unhide HA) (unhide HB)).mono ?_
        rintro e w1 ⟨rfl, rfl⟩
        generalize divI a b = D at *
        by_cases hneg : b < 0
        · have hbe : (b.natAbs : Int) = -b := by omega
          have db : decide (b < 0) = true := by simp; omega
          by_cases k1 : 2147483647 ≤ D
          · have q1 : decide (2147483647 ≤ D) = true := by simp; omega
            go_wp2
            go_ret
            exact ⟨by simp, unhide X⟩
          · have q1 : decide (2147483647 ≤ D) = false := by simp; omega
            by_cases k2 : D ≤ -2147483648
            · have q2 : decide (D ≤ -2147483648) = true := by simp; omega
              go_wp2
              go_ret
              exact ⟨by simp, unhide X⟩
            · have q2 : decide (D ≤ -2147483648) = false := by simp; omega
              have hd := unhide HDn hb0 (by omega) (by omega)
              rw [hbe] at hd
              have q3 : decide (2 * (D * b - a * 65536) ≤ -b) = true := by simp; omega
              have q4 : decide (b ≤ 2 * (D * b - a * 65536)) = true := by simp; omega
              go_wp2
              go_ret
              exact ⟨by simp, unhide X⟩
        · have hbe : (b.natAbs : Int) = b := by omega
          have db : decide (b < 0) = false := by simp; omega
          by_cases k1 : 2147483647 ≤ D
          · have q1 : decide (2147483647 ≤ D) = true := by simp; omega
            go_wp2
            go_ret
            exact ⟨by simp, unhide X⟩
          · have q1 : decide (2147483647 ≤ D) = false := by simp; omega
            by_cases k2 : D ≤ -2147483648
            · have q2 : decide (D ≤ -2147483648) = true := by simp; omega
              go_wp2
              go_ret
              exact ⟨by simp, unhide X⟩
            · have q2 : decide (D ≤ -2147483648) = false := by simp; omega
              have hd := unhide HDn hb0 (by omega) (by omega)
              rw [hbe] at hd
              have q3 : decide (2 * (D * b - a * 65536) ≤ b) = true := by simp; omega
              have q4 : decide (-b ≤ 2 * (D * b - a * 65536)) = true := by simp; omega
              go_wp2
              go_ret
              exact ⟨by simp, unhide X⟩
  · have t1 : decide (M < 2147483647) = false := by simp; omega
    by_cases hb0 : b = 0
    · subst hb0
      try simp only [Int.mul_zero, Int.sub_zero] at t3 t4 hm
      go_wp2
      go_ret
      exact ⟨by simp, unhide X⟩
    · have tb : (b == 0) = false := by simp; omega
      go_wp2_with fail
      refine (div_any _ _ _ (unhide HA) (unhide HB)).mono ?_
      rintro e w1 ⟨rfl, rfl⟩
      generalize divI a b = D at *
      by_cases hneg : b < 0
      · have hbe : (b.natAbs : Int) = -b := by omega
        have db : decide (b < 0) = true := by simp; omega
        by_cases k1 : 2147483647 ≤ D
        · have q1 : decide (2147483647 ≤ D) = true := by simp; omega
          go_wp2
          go_ret
          exact ⟨by simp, unhide X⟩
        · have q1 : decide (2147483647 ≤ D) = false := by simp; omega
          by_cases k2 : D ≤ -2147483648
          · have q2 : decide (D ≤ -2147483648) = true := by simp; omega
            go_wp2
            go_ret
            exact ⟨by simp, unhide X⟩
          · have q2 : decide (D ≤ -2147483648) = false := by simp; omega
            have hd := unhide HDn hb0 (by omega) (by omega)
            rw [hbe] at hd
            have q3 : decide (2 * (D * b - a * 65536) ≤ -b) = true := by simp; omega
            have q4 : decide (b ≤ 2 * (D * b - a * 65536)) = true := by simp; omega
            go_wp2
            go_ret
            exact ⟨by simp, unhide X⟩
      · have hbe : (b.natAbs : Int) = b := by omega
        have db : decide (b < 0) = false := by simp; omega
        by_cases k1 : 2147483647 ≤ D
        · have q1 : decide (2147483647 ≤ D) = true := by simp; omega
          go_wp2
          go_ret
          exact ⟨by simp, unhide X⟩
        · have q1 : decide (2147483647 ≤ D) = false := by simp; omega
          by_cases k2 : D ≤ -2147483648
          · have q2 : decide (D ≤ -2147483648) = true := by simp; omega
            go_wp2
            go_ret
            exact ⟨by simp, unhide X⟩
          · have q2 : decide (D ≤ -2147483648) = false := by simp; omega
            have hd := unhide HDn hb0 (by omega) (by omega)
            rw [hbe] at hd
            have q3 : decide (2 * (D * b - a * 65536) ≤ b) = true := by simp; omega
            have q4 : decide (-b ≤ 2 * (D * b - a * 65536)) = true := by simp; omega
            go_wp2
            go_ret
            exact ⟨by simp, unhide X⟩

theorem near_owes (H : Type) (enc : TypeId × Value → H) (W : World) (base : Nat) (args : Array Value) (ds : List (DataW H)) (p : List MemPlace) : OwesL H enc Tryd.prog 4 Tryd.f4 Rows.fixNearSpec laidL W base args ds p := by
  intro hval hA hsz hL
  have hT := tab_of_laid hL
  clear hL
  rw [Tryd.params4] at hA hval hsz
  obtain ⟨v0, vs0, d0, ds0, p0, q0, hargs, rfl, rfl, h0, r0⟩ := trodAll_cons hA
  obtain ⟨v1, vs1, d1, ds1, p1, q1, rfl, rfl, rfl, h1, r1⟩ := trodAll_cons r0
  obtain ⟨rfl, rfl, rfl⟩ := trodAll_nil r1
  obtain rfl : args = #[v0, v1] := by cases args; simp_all
  obtain ⟨a, rfl, rfl, rfl, wa⟩ := open_int Tryd.underlying22 (hval 0 22 v0 rfl rfl) h0
  obtain ⟨b, rfl, rfl, rfl, wb⟩ := open_int Tryd.underlying22 (hval 1 22 v1 rfl rfl) h1
  exact ⟨⟨rfl, rfl, rfl⟩, near_walk a b W (bounds_i32 wa) (bounds_i32 wb) hT⟩

set_option maxRecDepth 100000 in
theorem near_lifted (os : Os) (started : os.Started) (H : Type) (enc : TypeId × Value → H) :
    ReturnsInHanded {} Tryd.checked os 4 .any (fun w args => (Rows.fixNearSpec.pre enc Tryd.prog Tryd.f4 Rows.fixNearRow.domain false w args ∧ laidMetH Tryd.prog Rows.fixNearRow.laid w) ∧ sizedMet enc Tryd.prog Tryd.f4 (OpenSpec.ofChange Rows.fixNearSpec) false w args) (Rows.fixNearSpec.post enc Tryd.prog Tryd.f4 false true false false) :=
  lift_law_laid (C := Tryd.checked) (laid := laidL) own laidOut started (by kernel_rfl) Tryd.func4 (T := 4) rfl Tryd.underlying4 rfl (by kernel_rfl)
    (ChangeSpec.witness_shaped (enc := enc) (C := Tryd.checked) (os := os) (X := fun w _ => laidMetH Tryd.prog laidL w) false (World.laidAll Tryd.prog os laidL) #[.int .i32 0, .int .i32 0] 8 (World.laidAll_os _ _ _)
      (World.shaped_of_ZipB (by kernel_rfl) (by kernel_rfl)) (by kernel_rfl) (by kernel_rfl) (by kernel_rfl) (laid_fits os _)) (near_owes H enc)

theorem fixNear_row : Rows.FixNearSaid :=
  OpenClaim.holds_of_wide 4 Tryd.f4 rfl rfl rfl rfl rfl rfl rfl ⟨rfl, rfl, rfl, rfl, rfl⟩ rfl rfl rfl rfl rfl (by kernel_rfl) Tryd.func4 (by kernel_rfl)
    (of_decide_eq_true (by kernel_rfl)) (by unfold Func.isWrapper; rw [if_neg (of_decide_eq_false (by kernel_rfl))]; exact ⟨rfl, rfl⟩)
    (fun os started H enc _ => near_lifted os started H enc)

theorem fixNear_plain (f : FuncId) (fn : Func) (hf : Tryd.pinned.checked.prog.funcNamed "paintbox/paintboxlaw02.FixNear" = some f) (hfn : Tryd.pinned.checked.prog.funcs[f]? = some fn) :
    false = Tryd.pinned.checked.prog.looks [] ∧ ∀ (j : Nat) t, fn.params[j]? = some t → Tryd.pinned.checked.prog.wantsStandIn t = false := by
  obtain rfl : f = 4 := Option.some.inj ((show Tryd.prog.funcNamed "paintbox/paintboxlaw02.FixNear" = some 4 by kernel_rfl).symm.trans hf) |>.symm
  obtain rfl : fn = Tryd.f4 := (Option.some.inj (Tryd.func4.symm.trans hfn)).symm
  refine ⟨by kernel_rfl, fun j t ht => ?_⟩
  rw [Tryd.params4] at ht
  have hm : t ∈ [22, 22] := by simpa using Array.mem_of_getElem? ht
  have hall : ([22, 22].all fun u => !Tryd.prog.wantsStandIn u) = true := by kernel_rfl
  exact (show Tryd.prog.wantsStandIn t = false by simpa using List.all_eq_true.1 hall t hm)

theorem fixNear_holds : Rows.FixNearCardSaid :=
  Claim7.holds_tied_plain_at .later [] _ _ _ _ fixNear_row (fun _ h => by cases h) (by kernel_rfl) (fun _ h => by cases h) fixNear_row_tie rfl ⟨rfl, rfl⟩ (by kernel_rfl) rfl fixNear_plain (by kernel_rfl)
#print axioms fixNear_holds
end Go.Proofs.YtalbfocodcjhmabDoor
