/-
  Proved: FixRises answers true for every three numbers: a greater number has no lesser sum, difference or floor, no greater negative, and no lesser product or quotient by what is above 0. Its tables of the library (the powers of ten) hold what the program's text lays. No other condition.
-/
import Derived.Test.YtalbfocodcjhmabDoorFrL
import Derived.Test.YtalbfocodcjhmabDoorFxW
namespace Go.Proofs.YtalbfocodcjhmabDoor
open Go.ChangeShapes Go.WideShapes Go.ChangeAt Go.RowKit
set_option linter.unusedVariables false
set_option linter.unusedSimpArgs false

theorem rawI_mono {a b : Int} (h : a ≤ b) : rawI a ≤ rawI b := by unfold rawI clampI; omega
theorem add_mono {a b : Int} (c : Int) (h : a ≤ b) : addI a c ≤ addI b c := rawI_mono (by omega)
theorem sub_mono {a b : Int} (c : Int) (h : a ≤ b) : subI a c ≤ subI b c := rawI_mono (by omega)
theorem floor_mono {a b : Int} (h : a ≤ b) : floorI a ≤ floorI b := by unfold floorI; omega
theorem neg_anti {a b : Int} (h : a ≤ b) : negI b ≤ negI a := rawI_mono (by omega)
theorem mul_mono {a b c : Int} (h : a ≤ b) (hc : 0 < c) : mulI a c ≤ mulI b c := by
  refine rawI_mono (Int.ediv_le_ediv (by omega) ?_)
  have := Int.mul_le_mul_of_nonneg_right h (Int.le_of_lt hc)
  omega
theorem near_mono {a b c : Int} (h : a.natAbs ≤ b.natAbs) (hc : c ≠ 0) : nearI a c ≤ nearI b c := by
  unfold nearI
  exact Int.ediv_le_ediv (by omega) (by omega)
theorem near_nonneg (a : Int) {c : Int} (hc : c ≠ 0) : 0 ≤ nearI a c := by
  unfold nearI
  exact Int.ediv_nonneg (by omega) (by omega)
theorem div_mono {a b c : Int} (h : a ≤ b) (hc : 0 < c) : divI a c ≤ divI b c := by
  have h0 : c ≠ 0 := by omega
  have hc2 : ¬ c < 0 := by omega
  have na := near_nonneg a h0
  have nb := near_nonneg b h0
  simp only [divI, h0, hc2, if_false, decide_false, decide_eq_false_iff_not]
  refine rawI_mono ?_
  by_cases ha : a < 0 <;> by_cases hb : b < 0
  · have := near_mono (a := b) (b := a) (c := c) (by omega) h0
    simp only [ha, hb, not_true, if_false]
    omega
  · simp only [ha, hb, not_true, not_false_iff, if_false, if_true]
    omega
  · omega
  · have := near_mono (a := a) (b := b) (c := c) (by omega) h0
    simp only [ha, hb, not_false_iff, if_true]
    omega

set_option maxHeartbeats 2000000 in
theorem rises_walk (a b c : Int) (w : World) (ha : I32 a) (hb : I32 b) (hc : I32 c) (hT : Tab w) :
    Calls Tryd.prog 3 #[.int .i32 a, .int .i32 b, .int .i32 c] w fun e w' => e = .returned (.bool true) ∧ Ext w w' := by
  go_enter Tryd.func3, Tryd.ntmps3
  go_wp2_with fail
  refine (wakes_any _ hT).mono ?_
  rintro e w1 ⟨rfl, hx1⟩
  have X := hide hx1
  clear hx1
  by_cases hlt : b < a
  · have d0 : decide (b < a) = true := by simp; omega
    have hle : b ≤ a := by omega
    go_wp2_with fail
    refine (add_any _ _ _ hb hc).mono ?_
    rintro e w1 ⟨rfl, rfl⟩
    go_wp2_with fail
    refine (add_any _ _ _ ha hc).mono ?_
    rintro e w1 ⟨rfl, rfl⟩
    have d1 : decide (addI a c < addI b c) = false := by have := add_mono c hle; simp; omega
    go_wp2_with fail
    refine (sub_any _ _ _ hb hc).mono ?_
    rintro e w1 ⟨rfl, rfl⟩
    go_wp2_with fail
    refine (sub_any _ _ _ ha hc).mono ?_
    rintro e w1 ⟨rfl, rfl⟩
    have d2 : decide (subI a c < subI b c) = false := by have := sub_mono c hle; simp; omega
    go_wp2_with fail
    refine (floor_any _ _ hb).mono ?_
    rintro e w1 ⟨rfl, rfl⟩
    go_wp2_with fail
    refine (floor_any _ _ ha).mono ?_
    rintro e w1 ⟨rfl, rfl⟩
    have d3 : decide (floorI a < floorI b) = false := by have := floor_mono hle; simp; omega
    go_wp2_with fail
    refine (neg_any _ _ hb).mono ?_
    rintro e w1 ⟨rfl, rfl⟩
    go_wp2_with fail
    refine (neg_any _ _ ha).mono ?_
    rintro e w1 ⟨rfl, rfl⟩
    have d4 : decide (negI b < negI a) = false := by have := neg_anti hle; simp; omega
    by_cases h0 : c ≤ 0
    · have d5 : decide (c ≤ 0) = true := by simp; omega
      go_wp2
      go_ret
      exact ⟨by simp, unhide X⟩
    · have d5 : decide (c ≤ 0) = false := by simp; omega
      go_wp2_with fail
      refine (mul_any _ _ _ hb hc).mono ?_
      rintro e w1 ⟨rfl, rfl⟩
      go_wp2_with fail
      refine (mul_any _ _ _ ha hc).mono ?_
      rintro e w1 ⟨rfl, rfl⟩
      have d6 : decide (mulI b c ≤ mulI a c) = true := by have := mul_mono (c := c) hle (by omega); simp; omega
      go_wp2_with fail
      refine (div_any _ _ _ hb hc).mono ?_
      rintro e w1 ⟨rfl, rfl⟩
      go_wp2_with fail
      refine (div_any _ _ _ ha hc).mono ?_
      rintro e w1 ⟨rfl, rfl⟩
      have d7 : decide (divI b c ≤ divI a c) = true := by have := div_mono (c := c) hle (by omega); simp; omega
      go_wp2
      go_ret
      exact ⟨by simp, unhide X⟩
  · have d0 : decide (b < a) = false := by simp; omega
    have hle : a ≤ b := by omega
    go_wp2_with fail
    refine (add_any _ _ _ ha hc).mono ?_
    rintro e w1 ⟨rfl, rfl⟩
    go_wp2_with fail
    refine (add_any _ _ _ hb hc).mono ?_
    rintro e w1 ⟨rfl, rfl⟩
    have d1 : decide (addI b c < addI a c) = false := by have := add_mono c hle; simp; omega
    go_wp2_with fail
    refine (sub_any _ _ _ ha hc).mono ?_
    rintro e w1 ⟨rfl, rfl⟩
    go_wp2_with fail
    refine (sub_any _ _ _ hb hc).mono ?_
    rintro e w1 ⟨rfl, rfl⟩
    have d2 : decide (subI b c < subI a c) = false := by have := sub_mono c hle; simp; omega
    go_wp2_with fail
    refine (floor_any _ _ ha).mono ?_
    rintro e w1 ⟨rfl, rfl⟩
    go_wp2_with fail
    refine (floor_any _ _ hb).mono ?_
    rintro e w1 ⟨rfl, rfl⟩
    have d3 : decide (floorI b < floorI a) = false := by have := floor_mono hle; simp; omega
    go_wp2_with fail
    refine (neg_any _ _ ha).mono ?_
    rintro e w1 ⟨rfl, rfl⟩
    go_wp2_with fail
    refine (neg_any _ _ hb).mono ?_
    rintro e w1 ⟨rfl, rfl⟩
    have d4 : decide (negI a < negI b) = false := by have := neg_anti hle; simp; omega
    by_cases h0 : c ≤ 0
    · have d5 : decide (c ≤ 0) = true := by simp; omega
      go_wp2
      go_ret
      exact ⟨by simp, unhide X⟩
    · have d5 : decide (c ≤ 0) = false := by simp; omega
      go_wp2_with fail
      refine (mul_any _ _ _ ha hc).mono ?_
      rintro e w1 ⟨rfl, rfl⟩
      go_wp2_with fail
      refine (mul_any _ _ _ hb hc).mono ?_
      rintro e w1 ⟨rfl, rfl⟩
      have d6 : decide (mulI a c ≤ mulI b c) = true := by have := mul_mono (c := c) hle (by omega); simp; omega
      go_wp2_with fail
      refine (div_any _ _ _ ha hc).mono ?_
      rintro e w1 ⟨rfl, rfl⟩
      go_wp2_with fail
      refine (div_any _ _ _ hb hc).mono ?_
      rintro e w1 ⟨rfl, rfl⟩
      have d7 : decide (divI a c ≤ divI b c) = true := by have := div_mono (c := c) hle (by omega); simp; omega
      go_wp2
      go_ret
      exact ⟨by simp, unhide X⟩

theorem rises_owes (H : Type) (enc : TypeId × Value → H) (W : World) (base : Nat) (args : Array Value) (ds : List (DataW H)) (p : List MemPlace) : OwesL H enc Tryd.prog 3 Tryd.f3 Rows.fixRisesSpec laidL W base args ds p := by
  intro hval hA hsz hL
  have hT := tab_of_laid hL
  clear hL
  rw [Tryd.params3] at hA hval hsz
  obtain ⟨v0, vs0, d0, ds0, p0, q0, hargs, rfl, rfl, h0, r0⟩ := trodAll_cons hA
  obtain ⟨v1, vs1, d1, ds1, p1, q1, rfl, rfl, rfl, h1, r1⟩ := trodAll_cons r0
  obtain ⟨v2, vs2, d2, ds2, p2, q2, rfl, rfl, rfl, h2, r2⟩ := trodAll_cons r1
  obtain ⟨rfl, rfl, rfl⟩ := trodAll_nil r2
  obtain rfl : args = #[v0, v1, v2] := by cases args; simp_all
  obtain ⟨a, rfl, rfl, rfl, wa⟩ := open_int Tryd.underlying22 (hval 0 22 v0 rfl rfl) h0
  obtain ⟨b, rfl, rfl, rfl, wb⟩ := open_int Tryd.underlying22 (hval 1 22 v1 rfl rfl) h1
  obtain ⟨c, rfl, rfl, rfl, wc⟩ := open_int Tryd.underlying22 (hval 2 22 v2 rfl rfl) h2
  exact ⟨⟨rfl, rfl, rfl⟩, rises_walk a b c W (bounds_i32 wa) (bounds_i32 wb) (bounds_i32 wc) hT⟩

set_option maxRecDepth 100000 in
theorem rises_lifted (os : Os) (started : os.Started) (H : Type) (enc : TypeId × Value → H) :
    ReturnsInHanded {} Tryd.checked os 3 .any (fun w args => (Rows.fixRisesSpec.pre enc Tryd.prog Tryd.f3 Rows.fixRisesRow.domain false w args ∧ laidMetH Tryd.prog Rows.fixRisesRow.laid w) ∧ sizedMet enc Tryd.prog Tryd.f3 (OpenSpec.ofChange Rows.fixRisesSpec) false w args) (Rows.fixRisesSpec.post enc Tryd.prog Tryd.f3 false true false false) :=
  lift_law_laid (C := Tryd.checked) (laid := laidL) own laidOut started (by kernel_rfl) Tryd.func3 (T := 4) rfl Tryd.underlying4 rfl (by kernel_rfl)
    (ChangeSpec.witness_shaped (enc := enc) (C := Tryd.checked) (os := os) (X := fun w _ => laidMetH Tryd.prog laidL w) false (World.laidAll Tryd.prog os laidL) #[.int .i32 0, .int .i32 0, .int .i32 0] 8 (World.laidAll_os _ _ _)
      (World.shaped_of_ZipB (by kernel_rfl) (by kernel_rfl)) (by kernel_rfl) (by kernel_rfl) (by kernel_rfl) (laid_fits os _)) (rises_owes H enc)

theorem fixRises_row : Rows.FixRisesSaid :=
  OpenClaim.holds_of_wide 3 Tryd.f3 rfl rfl rfl rfl rfl rfl rfl ⟨rfl, rfl, rfl, rfl, rfl⟩ rfl rfl rfl rfl rfl (by kernel_rfl) Tryd.func3 (by kernel_rfl)
    (of_decide_eq_true (by kernel_rfl)) (by unfold Func.isWrapper; rw [if_neg (of_decide_eq_false (by kernel_rfl))]; exact ⟨rfl, rfl⟩)
    (fun os started H enc _ => rises_lifted os started H enc)

theorem fixRises_plain (f : FuncId) (fn : Func) (hf : Tryd.pinned.checked.prog.funcNamed "paintbox/paintboxlaw02.FixRises" = some f) (hfn : Tryd.pinned.checked.prog.funcs[f]? = some fn) :
    false = Tryd.pinned.checked.prog.looks [] ∧ ∀ (j : Nat) t, fn.params[j]? = some t → Tryd.pinned.checked.prog.wantsStandIn t = false := by
  obtain rfl : f = 3 := Option.some.inj ((show Tryd.prog.funcNamed "paintbox/paintboxlaw02.FixRises" = some 3 by kernel_rfl).symm.trans hf) |>.symm
  obtain rfl : fn = Tryd.f3 := (Option.some.inj (Tryd.func3.symm.trans hfn)).symm
  refine ⟨by kernel_rfl, fun j t ht => ?_⟩
  rw [Tryd.params3] at ht
  have hm : t ∈ [22, 22, 22] := by simpa using Array.mem_of_getElem? ht
  have hall : ([22, 22, 22].all fun u => !Tryd.prog.wantsStandIn u) = true := by kernel_rfl
  exact (show Tryd.prog.wantsStandIn t = false by simpa using List.all_eq_true.1 hall t hm)

theorem fixRises_holds : Rows.FixRisesCardSaid :=
  Claim7.holds_tied_plain_at .later [] _ _ _ _ fixRises_row (fun _ h => by cases h) (by kernel_rfl) (fun _ h => by cases h) fixRises_row_tie rfl ⟨rfl, rfl⟩ (by kernel_rfl) rfl fixRises_plain (by kernel_rfl)
#print axioms fixRises_holds
end Go.Proofs.YtalbfocodcjhmabDoor
