/-
  Proved: ImageCounts answers true for every two numbers and turns nothing that was there: a new image is as the document says, and Count is as the rule computes it.
-/
import Derived.Test.YteenkmacpjmmjaaKW
import Derived.Test.YteenkmacpjmmjaaRA
import Derived.Test.YteenkmacpjmmjaaFr
namespace Go.Proofs.Yteenkmacpjmmjaa
open Go.ChangeShapes Go.WideShapes Go.ChangeAt Go.RowKit
set_option linter.unusedVariables false
set_option linter.unusedSimpArgs false

theorem new_chk : chkE newI = 0 := by decide
set_option maxRecDepth 10000 in
set_option maxHeartbeats 4000000 in
theorem counts_walk (W H : Int) (w : World) :
    Calls Try.prog 7 #[.int .i64 W, .int .i64 H] w fun e w' => e = .returned (.bool true) ∧ Ext w w' := by
  go_enter Try.func7, Try.ntmps7
  go_wp2_with fail
  refine (wakes_any _).mono ?_
  rintro e w1 ⟨rfl, hx1⟩
  go_wp2_with fail
  refine (new_any _).mono ?_
  rintro e w2 ⟨rfl, hx2⟩
  have H2 := hide ((hx1.trans hx2).alloc (.cells #[.int .i64 0, .slice none 0 0, .int .i64 1, .int .i64 1, .int .i64 3, .int .i64 2] 24))
  clear hx1 hx2
  go_wp2_with fail
  refine (check_any (I := newI) (LR.none _) (by simp) rfl).mono ?_
  rintro e w3 ⟨rfl, hx3⟩
  rw [new_chk]
  have H3 := hide ((unhide H2).trans hx3)
  clear hx3 H2
  go_wp2_with fail
  refine (count_any W H _).mono ?_
  rintro e w4 ⟨rfl, rfl⟩
  go_wp2_with fail
  refine (refCount_any W H _).mono ?_
  rintro e w5 ⟨rfl, rfl⟩
  go_wp2
  go_ret
  exact ⟨rfl, unhide H3⟩

theorem counts_owes (H : Type) (enc : TypeId × Value → H) (W : World) (base : Nat) (args : Array Value) (ds : List (DataW H)) (p : List MemPlace) : Owes H enc Try.prog 7 Try.f7 Rows.imageCountsSpec W base args ds p := by
  intro hval hA hsz
  rw [Try.params7] at hA hval hsz
  obtain ⟨v0, vs0, d0, ds0, p0, q0, hargs, rfl, rfl, h0, r0⟩ := trodAll_cons hA
  obtain ⟨v1, vs1, d1, ds1, p1, q1, rfl, rfl, rfl, h1, r1⟩ := trodAll_cons r0
  obtain ⟨rfl, rfl, rfl⟩ := trodAll_nil r1
  obtain rfl : args = #[v0, v1] := by cases args; simp_all
  obtain ⟨x, rfl, rfl, rfl, wx⟩ := open_int Try.underlying3 (hval 0 3 v0 rfl rfl) h0
  obtain ⟨y, rfl, rfl, rfl, wy⟩ := open_int Try.underlying3 (hval 1 3 v1 rfl rfl) h1
  exact ⟨⟨rfl, rfl, rfl⟩, counts_walk x y W⟩

set_option maxRecDepth 100000 in
theorem counts_lifted (os : Os) (started : os.Started) (H : Type) (enc : TypeId × Value → H) :
    ReturnsInHanded {} Try.checked os 7 .any (Rows.imageCountsSpec.pre6 enc Try.prog Try.f7 [] false) (Rows.imageCountsSpec.post enc Try.prog Try.f7 false true false false) :=
  lift_law (C := Try.checked) own laidOut started (by kernel_rfl) Try.func7 (T := 4) rfl Try.underlying4 rfl (by kernel_rfl)
    (ChangeSpec.witness6 (enc := enc) (C := Try.checked) false ⟨#[], #[.int .i64 0, .int .i64 0], []⟩ 8 (by kernel_rfl) (by kernel_rfl) (by kernel_rfl) (by kernel_rfl)) (counts_owes H enc)

theorem imageCounts_holds : Rows.ImageCountsSaid :=
  OpenClaim.holds_of_wide 7 Try.f7 rfl rfl rfl rfl rfl rfl rfl ⟨rfl, rfl, rfl, rfl, rfl⟩ rfl rfl rfl rfl rfl (by kernel_rfl) Try.func7 (by kernel_rfl)
    (of_decide_eq_true (by kernel_rfl)) (by unfold Func.isWrapper; rw [if_neg (of_decide_eq_false (by kernel_rfl))]; exact ⟨rfl, rfl⟩)
    (fun os started H enc _ => counts_lifted os started H enc)
#print axioms imageCounts_holds
end Go.Proofs.Yteenkmacpjmmjaa
