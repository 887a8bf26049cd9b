/-
  Proved: SampleWraps answers true for every three numbers and turns nothing that was there: a whole number is wrapped into places as the rule computes it.
-/
import Derived.Test.YtgblnipfeikomaaSN
namespace Go.Proofs.Ytgblnipfeikomaa
open Go.ChangeShapes Go.WideShapes Go.ChangeAt Go.RowKit
set_option linter.unusedVariables false
set_option linter.unusedSimpArgs false

theorem wrapI_off {m i n : Int} (h : n < 1 ∨ 64 < n ∨ m < 1 ∨ 3 < m) : wrapI m i n = 0 := by
  unfold wrapI
  by_cases h1 : n < 1 ∨ 64 < n
  · rw [if_pos h1]
  · rw [if_neg h1, if_neg (by omega), if_neg (by omega), if_neg (by omega)]

set_option maxHeartbeats 1000000 in
theorem wraps_walk (m i n : Int) (W : World) : Calls Try.prog 3 #[.int .i64 m, .int .i64 i, .int .i64 n] W fun e w' => e = .returned (.bool true) ∧ Ext W w' := by
  go_enter Try.func3, Try.ntmps3
  go_wp2_with fail
  refine (wakes_any _).mono ?_
  rintro e w1 ⟨rfl, hx1⟩
  have HX := hide hx1
  clear hx1
  go_wp2_with fail
  refine (wrap_any m i n _).mono ?_
  rintro e w2 ⟨rfl, rfl⟩
  by_cases hoff : n < 1 ∨ 64 < n ∨ m < 1 ∨ 3 < m
  · rw [wrapI_off hoff]
    by_cases c1 : n < 1
    · clear hoff
      go_wp2
      go_ret
      exact ⟨rfl, unhide HX⟩
    by_cases c2 : 64 < n
    · clear hoff
      go_wp2
      go_ret
      exact ⟨rfl, unhide HX⟩
    by_cases c3 : m < 1
    · clear hoff
      go_wp2
      go_ret
      exact ⟨rfl, unhide HX⟩
    have c4 : 3 < m := by omega
    clear hoff
    go_wp2
    go_ret
    exact ⟨rfl, unhide HX⟩
  have c1 : ¬ n < 1 := by omega
  have c2 : ¬ 64 < n := by omega
  have c3 : ¬ m < 1 := by omega
  have c4 : ¬ 3 < m := by omega
  clear hoff
  by_cases hn : Near i
  · have HN := hide hn
    clear hn
    go_wp2_with fail
    refine (near_yes (unhide HN) _).mono ?_
    rintro e w3 ⟨rfl, rfl⟩
    go_wp2_with fail
    refine (refWrap_any m i n _ ⟨by omega, by omega⟩ ⟨by omega, by omega⟩ ⟨Int.le_of_lt (unhide HN).1, Int.le_of_lt (unhide HN).2⟩).mono ?_
    rintro e w4 ⟨rfl, rfl⟩
    go_wp2
    go_ret
    exact ⟨rfl, unhide HX⟩
  · go_wp2_with fail
    refine (near_no hn _).mono ?_
    rintro e w3 ⟨rfl, rfl⟩
    go_wp2
    go_ret
    exact ⟨rfl, unhide HX⟩

set_option maxRecDepth 10000
theorem wraps_owes (H : Type) (enc : TypeId × Value → H) (W : World) (base : Nat) (args : Array Value) (ds : List (DataW H)) (p : List MemPlace) : Owes H enc Try.prog 3 Try.f3 Rows.sampleWrapsSpec W base args ds p := by
  intro hval hA hsz
  rw [Try.params3] at hA hval hsz
  obtain ⟨v0, vs0, d0, ds0, p0, q0, hargs, rfl, rfl, h0, r0⟩ := trodAll_cons hA
  obtain ⟨v1, vs1, d1, ds1, p1, q1, rfl, rfl, rfl, h1, r1⟩ := trodAll_cons r0
  obtain ⟨v2, vs2, d2, ds2, p2, q2, rfl, rfl, rfl, h2, r2⟩ := trodAll_cons r1
  obtain ⟨rfl, rfl, rfl⟩ := trodAll_nil r2
  obtain rfl : args = #[v0, v1, v2] := by cases args; simp_all
  obtain ⟨x, rfl, rfl, rfl, wx⟩ := open_int Try.underlying3 (hval 0 3 v0 rfl rfl) h0
  obtain ⟨y, rfl, rfl, rfl, wy⟩ := open_int Try.underlying3 (hval 1 3 v1 rfl rfl) h1
  obtain ⟨z, rfl, rfl, rfl, wz⟩ := open_int Try.underlying3 (hval 2 3 v2 rfl rfl) h2
  exact ⟨⟨rfl, rfl, rfl⟩, wraps_walk x y z W⟩

set_option maxRecDepth 100000 in
theorem wraps_lifted (os : Os) (started : os.Started) (H : Type) (enc : TypeId × Value → H) :
    ReturnsInHanded {} Try.checked os 3 .any (Rows.sampleWrapsSpec.pre6 enc Try.prog Try.f3 [] false) (Rows.sampleWrapsSpec.post enc Try.prog Try.f3 false true false false) :=
  lift_law (C := Try.checked) own laidOut started (by kernel_rfl) Try.func3 (T := 4) rfl Try.underlying4 rfl (by kernel_rfl)
    (ChangeSpec.witness6 (enc := enc) (C := Try.checked) false ⟨#[], #[.int .i64 0, .int .i64 0, .int .i64 0], []⟩ 8 (by kernel_rfl) (by kernel_rfl) (by kernel_rfl) (by kernel_rfl)) (wraps_owes H enc)

theorem sampleWraps_holds : Rows.SampleWrapsSaid :=
  OpenClaim.holds_of_wide 3 Try.f3 rfl rfl rfl rfl rfl rfl rfl ⟨rfl, rfl, rfl, rfl, rfl⟩ rfl rfl rfl rfl rfl (by kernel_rfl) Try.func3 (by kernel_rfl)
    (of_decide_eq_true (by kernel_rfl)) (by unfold Func.isWrapper; rw [if_neg (of_decide_eq_false (by kernel_rfl))]; exact ⟨rfl, rfl⟩)
    (fun os started H enc _ => wraps_lifted os started H enc)
#print axioms sampleWraps_holds
end Go.Proofs.Ytgblnipfeikomaa
