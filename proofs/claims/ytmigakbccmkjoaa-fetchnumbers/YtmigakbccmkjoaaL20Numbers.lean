/-
  Proved: FetchNumbers answers true for every kind, normalized or not, and every number, and turns nothing that was there: which number a number of a kind stands for is as the rule computes it, and so is how many bytes it has.
-/
import Derived.Test.YtmigakbccmkjoaaFr
import Derived.Test.YtmigakbccmkjoaaFEi
import Derived.Test.YtmigakbccmkjoaaFEq
namespace Go.Proofs.Ytmigakbccmkjoaa
open Go.ChangeShapes Go.WideShapes Go.ChangeAt Go.RowKit
set_option linter.unusedVariables false
set_option linter.unusedSimpArgs false

set_option maxHeartbeats 1000000 in
theorem fnumbers_walk (k : Int) (nz : Bool) (n : Int) (W : World) :
    Calls Try.prog 5 #[.int .i64 k, .bool nz, .int .i64 n] W fun e w' => e = .returned (.bool true) ∧ Ext W w' := by
  have HN := hide (fun wx => fetNumber_any k nz n wx)
  have HR := hide (fun wx => rnumber_any k nz n wx)
  have HW1 := hide (fun wx => fwidth_any k wx)
  have HW2 := hide (fun wx => rwidth_any k wx)
  have hcase : nuE k n = 0 ∨ (nuE k n = 2 ∧ nuF k nz n = 0) := by
    by_cases h : nuE k n = 0
    · exact .inl h
    · refine .inr ⟨?_, by unfold nuF; rw [if_neg h]⟩
      unfold nuE at h ⊢
      split
      · rename_i h2; exact absurd (if_pos h2) h
      · rfl
  have HC := hide hcase
  clear hcase
  rcases unhide HC with e | ⟨e, e2⟩
  · rw [e] at HN HR
    rw [show decide ((0 : Int) = 0) = true from rfl] at HR
    generalize nuF k nz n = y at *
    generalize ((widI k : Nat) : Int) = wd at *
    clear e HC
    go_enter Try.func5, Try.ntmps5
    go_wp2_with (first
      | (go_at_call 8; refine (wakes20_any _).mono ?_; rintro e w1 ⟨rfl, hx1⟩; have X1 := hide hx1; clear hx1)
      | (go_at_call 17; refine (unhide HN _).mono ?_; rintro e w2 ⟨rfl, hx2⟩; have X2 := hide ((unhide X1).trans hx2); clear hx2)
      | (go_at_call 18; refine (unhide HR _).mono ?_; rintro e w3 ⟨rfl, hw3⟩; obtain rfl := hw3.symm)
      | (go_at_call 19; refine (unhide HW1 _).mono ?_; rintro e w4 ⟨rfl, hx4⟩; have X4 := hide ((unhide X2).trans hx4); clear hx4)
      | (go_at_call 20; refine (unhide HW2 _).mono ?_; rintro e w5 ⟨rfl, hw5⟩; obtain rfl := hw5.symm))
    go_ret
    exact ⟨by simp, unhide X4⟩
  · rw [e, e2] at HN HR
    rw [show decide ((2 : Int) = 0) = false from rfl] at HR
    generalize ((widI k : Nat) : Int) = wd at *
    clear e e2 HC
    go_enter Try.func5, Try.ntmps5
    go_wp2_with (first
      | (go_at_call 8; refine (wakes20_any _).mono ?_; rintro e w1 ⟨rfl, hx1⟩; have X1 := hide hx1; clear hx1)
      | (go_at_call 17; refine (unhide HN _).mono ?_; rintro e w2 ⟨rfl, hx2⟩; have X2 := hide ((unhide X1).trans hx2); clear hx2)
      | (go_at_call 18; refine (unhide HR _).mono ?_; rintro e w3 ⟨rfl, hw3⟩; obtain rfl := hw3.symm)
      | (go_at_call 19; refine (unhide HW1 _).mono ?_; rintro e w4 ⟨rfl, hx4⟩; have X4 := hide ((unhide X2).trans hx4); clear hx4)
      | (go_at_call 20; refine (unhide HW2 _).mono ?_; rintro e w5 ⟨rfl, hw5⟩; obtain rfl := hw5.symm))
    go_ret
    exact ⟨by simp, unhide X4⟩

set_option maxRecDepth 10000
theorem fnumbers_owes (H : Type) (enc : TypeId × Value → H) (W : World) (base : Nat) (args : Array Value) (ds : List (DataW H)) (p : List MemPlace) : Owes H enc Try.prog 5 Try.f5 Rows.fetchNumbersSpec W base args ds p := by
  intro hval hA hsz
  rw [Try.params5] at hA hval hsz
  obtain ⟨v0, vs0, d0, ds0, p0, q0, hargs, rfl, rfl, h0, r0⟩ := trodAll_cons hA
  obtain ⟨v1, vs1, d1, ds1, p1, q1, rfl, rfl, rfl, h1, r1⟩ := trodAll_cons r0
  obtain ⟨v2, vs2, d2, ds2, p2, q2, rfl, rfl, rfl, h2, r2⟩ := trodAll_cons r1
  obtain ⟨rfl, rfl, rfl⟩ := trodAll_nil r2
  obtain rfl : args = #[v0, v1, v2] := by cases args; simp_all
  obtain ⟨k, rfl, rfl, rfl, wk⟩ := open_int Try.underlying3 (hval 0 3 v0 rfl rfl) h0
  obtain ⟨nz, rfl, rfl, rfl⟩ := open_bool Try.underlying4 (hval 1 4 v1 rfl rfl) h1
  obtain ⟨n, rfl, rfl, rfl, wn⟩ := open_int Try.underlying2 (hval 2 2 v2 rfl rfl) h2
  exact ⟨⟨rfl, rfl, rfl⟩, fnumbers_walk k nz n W⟩

set_option maxRecDepth 100000 in
theorem fnumbers_lifted (os : Os) (started : os.Started) (H : Type) (enc : TypeId × Value → H) :
    ReturnsInHanded {} Try.checked os 5 .any (Rows.fetchNumbersSpec.pre6 enc Try.prog Try.f5 [] false) (Rows.fetchNumbersSpec.post enc Try.prog Try.f5 false true false false) :=
  lift_law (C := Try.checked) own laidOut started (by kernel_rfl) Try.func5 (T := 4) rfl Try.underlying4 rfl (by kernel_rfl)
    (ChangeSpec.witness6 (enc := enc) (C := Try.checked) false ⟨#[], #[.int .i64 0, .bool false, .int .i64 0], []⟩ 8 (by kernel_rfl) (by kernel_rfl) (by kernel_rfl) (by kernel_rfl)) (fnumbers_owes H enc)

theorem fetchNumbers_holds : Rows.FetchNumbersSaid :=
  OpenClaim.holds_of_wide 5 Try.f5 rfl rfl rfl rfl rfl rfl rfl ⟨rfl, rfl, rfl, rfl, rfl⟩ rfl rfl rfl rfl rfl (by kernel_rfl) Try.func5 (by kernel_rfl)
    (of_decide_eq_true (by kernel_rfl)) (by unfold Func.isWrapper; rw [if_neg (of_decide_eq_false (by kernel_rfl))]; exact ⟨rfl, rfl⟩)
    (fun os started H enc _ => fnumbers_lifted os started H enc)
#print axioms fetchNumbers_holds
end Go.Proofs.Ytmigakbccmkjoaa
