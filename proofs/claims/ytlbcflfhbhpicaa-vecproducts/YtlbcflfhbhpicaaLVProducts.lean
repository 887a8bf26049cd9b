/-
  Proved: VecProducts answers true for every size and pair of vectors: Cross and Dot answer as the document says, or ErrArg and 0. No condition.
-/
import Derived.Test.YtlbcflfhbhpicaaVF
import Derived.Test.YtlbcflfhbhpicaaVW
import Derived.Test.YtlbcflfhbhpicaaVT
import Derived.Test.YtlbcflfhbhpicaaQv
namespace Go.Proofs.Ytlbcflfhbhpicaa
open Go.ChangeShapes Go.WideShapes Go.ChangeAt Go.RowKit
set_option linter.unusedVariables false

set_option maxHeartbeats 4000000 in
theorem products_any (n : Int) (a b : Nat → Int) (w : World) (Ia : ∀ i, I32 (a i)) (Ib : ∀ i, I32 (b i)) :
    Calls Try.prog 5 #[.int .i64 n, .agg #[.int .i32 (a 0), .int .i32 (a 1), .int .i32 (a 2), .int .i32 (a 3), .int .i32 (b 0), .int .i32 (b 1), .int .i32 (b 2), .int .i32 (b 3)]] w fun e w' => e = .returned (.bool true) ∧ Ext w w' := by
  have hE := eqV
  have HI := hide (And.intro Ia Ib)
  clear Ia Ib
  go_enter Try.func5, Try.ntmps5
  go_wp2_with fail
  refine (wakes_any _).mono ?_
  rintro e w1 ⟨rfl, hx1⟩
  have B := hide ((Blk.at (cs := #[.int .i32 (a 0), .int .i32 (a 1), .int .i32 (a 2), .int .i32 (a 3), .int .i32 (b 0), .int .i32 (b 1), .int .i32 (b 2), .int .i32 (b 3)]) (t := 26) (rfl : w.heap.size = w.heap.size)).ext hx1)
  have X := hide (((Ext.refl w).alloc _).trans hx1)
  clear hx1
  obtain ⟨⟨p0, p1, p2, p3⟩, p4, p5, p6, p7⟩ := (unhide B).pair
  have l0 := cell_later p0
  have l1 := cell_later p1
  have l2 := cell_later p2
  have l3 := cell_later p3
  have l4 := cell_later p4
  have l5 := cell_later p5
  have l6 := cell_later p6
  have l7 := cell_later p7
  clear p0 p1 p2 p3 p4 p5 p6 p7
  have hne := Later.some w1
  go_wp2
  refine wp_region_later (by kernel_rfl) (by kernel_rfl) ?_
  repeat (go_big_quiet_step (first | (go_at_call 15; refine calls_later (crossV_any a b _ (unhide HI).1 (unhide HI).2)) | (go_at_call 16; refine calls_later (refCross_any a b _ (unhide HI).1 (unhide HI).2))))
  refine wpQuiet_nil ?_
  rintro _ ⟨x, rfl⟩
  have B2 := hide ((unhide B).ext x.ext)
  have X2 := hide ((unhide X).trans x.ext)
  clear l0 l1 l2 l3 l4 l5 l6 l7 B X hne
  generalize x.w = w2 at *
  clear x
  obtain ⟨⟨p0, p1, p2, p3⟩, p4, p5, p6, p7⟩ := (unhide B2).pair
  by_cases h : n < 1 ∨ 4 < n
  · have hd : (decide (n < 1) || decide (4 < n)) = true := by simp; omega
    go_wp2_with fail
    refine (dot_off n a b _ h).mono ?_
    rintro e w3 ⟨rfl, hx3⟩
    have X3 := hide ((unhide X2).trans hx3)
    clear hx3 p0 p1 p2 p3 p4 p5 p6 p7 h
    go_wp2
    all_goals (first | (exfalso; simp at hd; omega) | (go_ret; exact ⟨by simp, unhide X3⟩))
  · have h1 : 1 ≤ n := by omega
    have h4 : n ≤ 4 := by omega
    have d1 : decide (n < 1) = false := by simp; omega
    have d4 : decide (4 < n) = false := by simp; omega
    clear h
    go_wp2_with fail
    refine (dot_any n a b _ h1 h4 (unhide HI).1 (unhide HI).2).mono ?_
    rintro e w3 ⟨rfl, hx3⟩
    have X3 := hide ((unhide X2).trans hx3)
    have B3 := hide ((unhide B2).ext hx3)
    clear hx3 p0 p1 p2 p3 p4 p5 p6 p7 B2 X2
    obtain ⟨⟨p0, p1, p2, p3⟩, p4, p5, p6, p7⟩ := (unhide B3).pair
    go_wp2_with fail
    refine (refDot_any n a b _ h1 h4 (unhide HI).1 (unhide HI).2).mono ?_
    rintro e w4 ⟨rfl, hx4⟩
    have X4 := hide ((unhide X3).trans hx4)
    clear hx4 p0 p1 p2 p3 p4 p5 p6 p7 B3 X3
    go_wp2
    go_ret
    exact ⟨by simp, unhide X4⟩

theorem products_owes (H : Type) (enc : TypeId × Value → H) (W : World) (base : Nat) (args : Array Value) (ds : List (DataW H)) (p : List MemPlace) : Owes H enc Try.prog 5 Try.f5 Rows.vecProductsSpec W base args ds p := by
  intro hval hA hsz
  rw [Try.params5] at hA hval hsz
  obtain ⟨v0, vs0, d0, ds0, p0, q0, hargs, rfl, rfl, h0, r0⟩ := trodAll_cons hA
  obtain ⟨v1, vs1, d1, ds1, p1, q1, rfl, rfl, rfl, h1, r1⟩ := trodAll_cons r0
  obtain ⟨rfl, rfl, rfl⟩ := trodAll_nil r1
  obtain rfl : args = #[v0, v1] := by cases args; simp_all
  obtain ⟨n, rfl, rfl, rfl, wn⟩ := open_int Try.underlying3 (hval 0 3 v0 rfl rfl) h0
  obtain ⟨a, b, rfl, Ia, Ib⟩ := open_pair (hval 1 26 v1 rfl rfl) h1
  exact ⟨⟨rfl, rfl, rfl⟩, products_any n a b W Ia Ib⟩

set_option maxRecDepth 100000 in
theorem products_lifted (os : Os) (started : os.Started) (H : Type) (enc : TypeId × Value → H) :
    ReturnsInHanded {} Try.checked os 5 .any (Rows.vecProductsSpec.pre6 enc Try.prog Try.f5 [] false) (Rows.vecProductsSpec.post enc Try.prog Try.f5 false true false false) :=
  lift_law (C := Try.checked) own laidOut started (by kernel_rfl) Try.func5 (T := 4) rfl Try.underlying4 rfl (by kernel_rfl)
    (ChangeSpec.witness6 (enc := enc) (C := Try.checked) false ⟨#[], #[.int .i64 0, .agg #[.int .i32 0, .int .i32 0, .int .i32 0, .int .i32 0, .int .i32 0, .int .i32 0, .int .i32 0, .int .i32 0]], []⟩ 8 (by kernel_rfl) (by kernel_rfl) (by kernel_rfl) (by kernel_rfl)) (products_owes H enc)

theorem vecProducts_holds : Rows.VecProductsSaid :=
  OpenClaim.holds_of_wide 5 Try.f5 rfl rfl rfl rfl rfl rfl rfl ⟨rfl, rfl, rfl, rfl, rfl⟩ rfl rfl rfl rfl rfl (by kernel_rfl) Try.func5 (by kernel_rfl)
    (of_decide_eq_true (by kernel_rfl)) (by unfold Func.isWrapper; rw [if_neg (of_decide_eq_false (by kernel_rfl))]; exact ⟨rfl, rfl⟩)
    (fun os started H enc _ => products_lifted os started H enc)
#print axioms vecProducts_holds
end Go.Proofs.Ytlbcflfhbhpicaa
