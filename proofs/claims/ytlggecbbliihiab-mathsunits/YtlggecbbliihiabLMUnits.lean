/-
  Proved: MathsUnits answers true for every vector and size: a vector over its length has no number beyond One, and the same signs. No condition.
-/
import Derived.Test.YtlggecbbliihiabVF
import Derived.Test.YtlggecbbliihiabMW
import Derived.Test.YtlggecbbliihiabMQ
namespace Go.Proofs.Ytlggecbbliihiab
open Go.ChangeShapes Go.WideShapes Go.ChangeAt Go.RowKit
set_option linter.unusedVariables false

theorem sqS_has {a : Nat → Int} (h : ∀ i, I32 (a i)) : ∀ k i, i < k → a i * a i ≤ sqS a k
  | 0, i, hi => by omega
  | k + 1, i, hi => by
    have h0 := sqS_nonneg h k
    have h1 := (sq_i32 (h k)).1
    show a i * a i ≤ sqS a k + a k * a k
    rcases (by omega : i < k ∨ i = k) with h3 | h3
    · have := sqS_has h k i h3
      omega
    · subst h3
      omega
theorem abs_sq (x : Int) : (x.natAbs : Int) * (x.natAbs : Int) = x * x := by
  rcases (by omega : (x.natAbs : Int) = x ∨ (x.natAbs : Int) = -x) with h | h <;> rw [h]
  rw [Int.neg_mul_neg]
/-- No number is greater than the length, but for the least one. -/
theorem length_has {a : Nat → Int} {n : Int} (h : ∀ i, I32 (a i)) {i : Nat} (hi : (i : Int) < cntI n) : ((a i).natAbs : Int) ≤ lengthI a n ∨ lengthI a n = 2147483647 := by
  have hs := sqS_has h (cntI n).toNat i (by omega)
  rw [← abs_sq] at hs
  have hb := lsI_bounds h (cntI n).toNat
  have hr := rootI_spec hb.1
  have hl : lengthI a n = rawI (rootI (lsI a (cntI n).toNat)) := rfl
  have h0 := hr.1
  rw [hl]
  by_cases c : sqS a (cntI n).toNat < 4611686018427387904
  · left
    have hm := lsI_eq h (cntI n).toNat
    rw [show min (sqS a (cntI n).toNat) 4611686018427387904 = sqS a (cntI n).toNat by omega] at hm
    rw [hm] at hr h0 ⊢
    have h1 := lt_of_sq (a := ((a i).natAbs : Int)) (b := rootI (sqS a (cntI n).toNat) + 1) (by omega) (by have := hr.2.2; omega)
    have h2 := lt_of_sq (a := rootI (sqS a (cntI n).toNat)) (b := 2147483648) (by omega) (by have := hr.2.1; omega)
    rw [rawI_id (by unfold I32; omega)]
    omega
  · right
    rw [lsI_eq h, show min (sqS a (cntI n).toNat) 4611686018427387904 = 4611686018427387904 by omega]
    exact root_most
theorem near_one {A L : Int} (hA : 0 ≤ A) (hL : 0 < L) (hA2 : A ≤ 2147483648) (h : A ≤ L ∨ L = 2147483647) : (A * 65536 + L / 2) / L ≤ 65536 := by
  have h1 : (A * 65536 + L / 2) / L < 65537 := by
    refine Int.ediv_lt_of_lt_mul hL ?_
    omega
  omega
theorem unit_bounds {a : Nat → Int} {n : Int} (h : ∀ i, I32 (a i)) (i : Nat) :
    -65536 ≤ unitI a n i ∧ unitI a n i ≤ 65536 ∧ (unitI a n i < 0 → a i < 0) ∧ (0 < unitI a n i → 0 < a i) := by
  have hL := lengthI_i32 a n
  unfold I32 at hL
  by_cases h0 : lengthI a n = 0
  · rw [unit_zero h h0]
    simp only [nul]
    omega
  · have hp : 0 < lengthI a n := by
      have hb := lsI_bounds h (cntI n).toNat
      have := (rootI_spec hb.1).1
      have hl : lengthI a n = rawI (rootI (lsI a (cntI n).toNat)) := rfl
      have : 0 ≤ lengthI a n := by rw [hl]; unfold rawI clampI; omega
      omega
    unfold unitI cut
    split
    · rename_i hi
      have hh := length_has (n := n) h hi
      have hai := h i
      unfold I32 at hai
      generalize lengthI a n = L at *
      show -65536 ≤ divI (a i) L ∧ divI (a i) L ≤ 65536 ∧ (divI (a i) L < 0 → a i < 0) ∧ (0 < divI (a i) L → 0 < a i)
      generalize a i = x at *
      have hn := near_one (A := (x.natAbs : Int)) (L := L) (by omega) hp (by omega) hh
      have hn0 := (near_bounds (a := x) (b := L) (by unfold I32; omega) (by unfold I32; omega) h0).1
      unfold divI
      rw [if_neg h0]
      unfold nearI at *
      rw [show (L.natAbs : Int) = L by omega] at *
      have hz : x = 0 → ((x.natAbs : Int) * 65536 + L / 2) / L = 0 := by
        rintro rfl
        simp
        exact Int.ediv_eq_zero_of_lt (by omega) (by omega)
      generalize ((x.natAbs : Int) * 65536 + L / 2) / L = q at *
      by_cases hx : x < 0
      · rw [if_neg (by simp [hx]; omega), rawI_id (by unfold I32; omega)]
        omega
      · rw [if_pos (by simp [hx]; omega), rawI_id (by unfold I32; omega)]
        refine ⟨by omega, by omega, by omega, fun hq => ?_⟩
        rcases (by omega : x = 0 ∨ 0 < x) with rfl | h
        · rw [hz rfl] at hq
          omega
        · exact h
    · omega

theorem unit_off {a : Nat → Int} {n : Int} {i : Nat} (hi : i < 4) (h : n ≤ (i : Int)) : unitI a n i = 0 := by
  unfold unitI cut
  rw [if_neg (by unfold cntI; omega)]

set_option maxHeartbeats 4000000 in
theorem units_walk (a : Nat → Int) (n : Int) (w : World) (Ia : ∀ i, I32 (a i)) :
    Calls Try.prog 5 #[.agg #[.int .i32 (a 0), .int .i32 (a 1), .int .i32 (a 2), .int .i32 (a 3)], .int .i64 n] w fun e w' => e = .returned (.bool true) ∧ Ext w w' := by
  have hE := eqV
  have HB := hide (fun i => unit_bounds (a := a) (n := n) Ia i)
  have HO := hide (fun i hi h => unit_off (a := a) (n := n) (i := i) hi h)
  have HZ := hide (fun h => unit_zero (a := a) (n := n) Ia h)
  have HI := hide Ia
  clear Ia
  go_enter Try.func5, Try.ntmps5
  go_wp2_with fail
  refine (wakes_any _).mono ?_
  rintro e w1 ⟨rfl, hx1⟩
  have B := hide ((Blk.at (cs := #[.int .i32 (a 0), .int .i32 (a 1), .int .i32 (a 2), .int .i32 (a 3)]) (t := 29) (rfl : w.heap.size = w.heap.size)).ext hx1)
  have X := hide (((Ext.refl w).alloc _).trans hx1)
  clear hx1
  obtain ⟨p0, p1, p2, p3⟩ := (unhide B).vec4
  go_wp2_with fail
  refine (normalize_any a n _ (unhide HI)).mono ?_
  rintro e w2 ⟨rfl, hx2⟩
  generalize unitI a n = u at *
  have B2 := hide (((unhide B).ext hx2).alloc (.cells #[.int .i32 (u 0), .int .i32 (u 1), .int .i32 (u 2), .int .i32 (u 3)] 29))
  have U2 := hide (Blk.at (w := w2) (cs := #[.int .i32 (u 0), .int .i32 (u 1), .int .i32 (u 2), .int .i32 (u 3)]) (t := 29) rfl)
  have X2 := hide (((unhide X).trans hx2).alloc (.cells #[.int .i32 (u 0), .int .i32 (u 1), .int .i32 (u 2), .int .i32 (u 3)] 29))
  clear hx2 B X p0 p1 p2 p3
  obtain ⟨q0, q1, q2, q3⟩ := (unhide U2).vec4
  go_wp2
  clear q0 q1 q2 q3
  generalize w2.alloc (.cells #[.int .i32 (u 0), .int .i32 (u 1), .int .i32 (u 2), .int .i32 (u 3)] 29) = w3 at *
  go_loopw [14] (fun i wr => ∃ k : Nat, k ≤ 4 ∧ i = .int .i64 k ∧ wr = w3) (fun i _ => 4 - (intOf i).toNat)
  case atStart => exact ⟨0, by omega, rfl, rfl⟩
  case round =>
    obtain ⟨k, hk, rfl, rfl⟩ := hrel
    by_cases hlt : k < 4
    · have hk4 : (k : Int) < 4 := by omega
      have hix := index4 u k hlt
      have c0 := (unhide B2).vec k hlt
      obtain ⟨b1, b2, b3, b4⟩ := unhide HB k
      have b5 := unhide HO k hlt
      generalize u k = x at *
      generalize a k = y at *
      have d1 : decide (65536 < x) = false := by simp; omega
      have d2 : decide (x < -65536) = false := by simp; omega
      have H5 := hide (And.intro b3 (And.intro b4 b5))
      clear b3 b4 b5
      have fin : (decide (x < 0) = true ∧ decide (0 < x) = false ∧ decide (0 < y) = false ∧ decide (n ≤ (k : Int)) = false) ∨ (decide (x < 0) = false ∧ decide (0 < x) = true ∧ decide (y < 0) = false ∧ decide (n ≤ (k : Int)) = false) ∨ x = 0 := by
        obtain ⟨b3, b4, b5⟩ := unhide H5
        rcases (by omega : x < 0 ∨ 0 < x ∨ x = 0) with h | h | h
        · left
          simp
          omega
        · right
          left
          simp
          omega
        · right
          right
          exact h
      rcases fin with ⟨t1, t2, t3, t4⟩ | ⟨t1, t2, t3, t4⟩ | rfl
      · go_wp2
        go_roundw
        case rel => exact ⟨k + 1, by omega, by go_num, trivial⟩
        case measure => simp [intOf]; omega
      · go_wp2
        go_roundw
        case rel => exact ⟨k + 1, by omega, by go_num, trivial⟩
        case measure => simp [intOf]; omega
      · by_cases hn : n ≤ (k : Int)
        · have t4 : decide (n ≤ (k : Int)) = true := by simp; omega
          go_wp2
          go_roundw
          case rel => exact ⟨k + 1, by omega, by go_num, trivial⟩
          case measure => simp [intOf]; omega
        · have t4 : decide (n ≤ (k : Int)) = false := by simp; omega
          go_wp2
          go_roundw
          case rel => exact ⟨k + 1, by omega, by go_num, trivial⟩
          case measure => simp [intOf]; omega
    · obtain ⟨p0, p1, p2, p3⟩ := (unhide B2).vec4
      go_wp2_with fail
      refine (length_any a n _ (unhide HI)).mono ?_
      rintro e w4 ⟨rfl, hx4⟩
      have X4 := hide ((unhide X2).trans hx4)
      have U4 := hide ((unhide U2).ext hx4)
      clear hx4 p0 p1 p2 p3
      by_cases h0 : lengthI a n = 0
      · have hu := unhide HZ h0
        subst hu
        rw [h0]
        obtain ⟨q0, q1, q2, q3⟩ := (unhide U4).vec4
        unfold nul at q0 q1 q2 q3
        go_wp2
        go_ret
        exact ⟨by simp, unhide X4⟩
      · have d : (lengthI a n != 0) = true := by simp; omega
        go_wp2
        go_ret
        exact ⟨by simp, unhide X4⟩

theorem units_owes (H : Type) (enc : TypeId × Value → H) (W : World) (base : Nat) (args : Array Value) (ds : List (DataW H)) (p : List MemPlace) : Owes H enc Try.prog 5 Try.f5 Rows.mathsUnitsSpec W base args ds p := by
  intro hval hA hsz
  rw [Try.params5] at hA hval hsz
  obtain ⟨v0, vs0, d0, ds0, p0, q0, hargs, rfl, rfl, h0, r0⟩ := trodAll_cons hA
  obtain ⟨v1, vs1, d1, ds1, p1, q1, rfl, rfl, rfl, h1, r1⟩ := trodAll_cons r0
  obtain ⟨rfl, rfl, rfl⟩ := trodAll_nil r1
  obtain rfl : args = #[v0, v1] := by cases args; simp_all
  obtain ⟨a, rfl, Ia⟩ := open_vec (hval 0 29 v0 rfl rfl) h0
  obtain ⟨n, rfl, rfl, rfl, wn⟩ := open_int Try.underlying3 (hval 1 3 v1 rfl rfl) h1
  exact ⟨⟨rfl, rfl, rfl⟩, units_walk a n W Ia⟩

set_option maxRecDepth 100000 in
theorem units_lifted (os : Os) (started : os.Started) (H : Type) (enc : TypeId × Value → H) :
    ReturnsInHanded {} Try.checked os 5 .any (Rows.mathsUnitsSpec.pre6 enc Try.prog Try.f5 [] false) (Rows.mathsUnitsSpec.post enc Try.prog Try.f5 false true false false) :=
  lift_law (C := Try.checked) own laidOut started (by kernel_rfl) Try.func5 (T := 4) rfl Try.underlying4 rfl (by kernel_rfl)
    (ChangeSpec.witness6 (enc := enc) (C := Try.checked) false ⟨#[], #[.agg #[.int .i32 0, .int .i32 0, .int .i32 0, .int .i32 0], .int .i64 0], []⟩ 8 (by kernel_rfl) (by kernel_rfl) (by kernel_rfl) (by kernel_rfl)) (units_owes H enc)

theorem mathsUnits_holds : Rows.MathsUnitsSaid :=
  OpenClaim.holds_of_wide 5 Try.f5 rfl rfl rfl rfl rfl rfl rfl ⟨rfl, rfl, rfl, rfl, rfl⟩ rfl rfl rfl rfl rfl (by kernel_rfl) Try.func5 (by kernel_rfl)
    (of_decide_eq_true (by kernel_rfl)) (by unfold Func.isWrapper; rw [if_neg (of_decide_eq_false (by kernel_rfl))]; exact ⟨rfl, rfl⟩)
    (fun os started H enc _ => units_lifted os started H enc)
#print axioms mathsUnits_holds
end Go.Proofs.Ytlggecbbliihiab
