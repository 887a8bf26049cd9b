/-
  Proved: MathsLengths answers true for every vector and size: lengths, and vectors over their lengths, are what the document says. No condition.
-/
import Derived.Test.YtlggecbbliihiaaVF
import Derived.Test.YtlggecbbliihiaaMW
import Derived.Test.YtlggecbbliihiaaMQ
import Derived.Test.YtlggecbbliihiaaQt
namespace Go.Proofs.Ytlggecbbliihiaa
open Go.ChangeShapes Go.WideShapes Go.ChangeAt Go.RowKit
set_option linter.unusedVariables false

set_option maxHeartbeats 4000000 in
theorem lengths_walk (a : Nat → Int) (n : Int) (w : World) (Ia : ∀ i, I32 (a i)) :
    Calls Try.prog 6 #[.agg #[.int .i32 (a 0), .int .i32 (a 1), .int .i32 (a 2), .int .i32 (a 3)], .int .i64 n] w fun e w' => e = .returned (.bool true) ∧ Ext w w' := by
  have hE := eqV
  have HI := hide Ia
  clear Ia
  go_enter Try.func6, Try.ntmps6
  go_wp2_with fail
  refine (wakes_any _).mono ?_
  rintro e w1 ⟨rfl, hx1⟩
  have B := hide ((Blk.at (cs := #[.int .i32 (a 0), .int .i32 (a 1), .int .i32 (a 2), .int .i32 (a 3)]) (t := 34) (rfl : w.heap.size = w.heap.size)).ext hx1)
  have X := hide (((Ext.refl w).alloc _).trans hx1)
  clear hx1
  obtain ⟨p0, p1, p2, p3⟩ := (unhide B).vec4
  have l0 := cell_later p0
  have l1 := cell_later p1
  have l2 := cell_later p2
  have l3 := cell_later p3
  clear p0 p1 p2 p3
  have hne := Later.some w1
  go_wp2
  refine wp_region_later (by kernel_rfl) (by kernel_rfl) ?_
  repeat (go_big_quiet_step (first | (go_at_call 26; refine calls_later (length_any a n _ (unhide HI))) | (go_at_call 27; refine calls_later (refLength_any a n _ (unhide HI))) | (go_at_call 28; refine calls_later (normalize_any a n _ (unhide HI))) | (go_at_call 29; refine calls_later (refNormalize_any a n _ (unhide HI)))))
  refine wpQuiet_nil ?_
  rintro _ ⟨x, rfl⟩
  go_wp2
  go_ret
  exact ⟨by simp, (unhide X).trans x.ext⟩

theorem lengths_owes (H : Type) (enc : TypeId × Value → H) (W : World) (base : Nat) (args : Array Value) (ds : List (DataW H)) (p : List MemPlace) : Owes H enc Try.prog 6 Try.f6 Rows.mathsLengthsSpec W base args ds p := by
  intro hval hA hsz
  rw [Try.params6] at hA hval hsz
  obtain ⟨v0, vs0, d0, ds0, p0, q0, hargs, rfl, rfl, h0, r0⟩ := trodAll_cons hA
  obtain ⟨v1, vs1, d1, ds1, p1, q1, rfl, rfl, rfl, h1, r1⟩ := trodAll_cons r0
  obtain ⟨rfl, rfl, rfl⟩ := trodAll_nil r1
  obtain rfl : args = #[v0, v1] := by cases args; simp_all
  obtain ⟨a, rfl, Ia⟩ := open_vec (hval 0 34 v0 rfl rfl) h0
  obtain ⟨n, rfl, rfl, rfl, wn⟩ := open_int Try.underlying3 (hval 1 3 v1 rfl rfl) h1
  exact ⟨⟨rfl, rfl, rfl⟩, lengths_walk a n W Ia⟩

set_option maxRecDepth 100000 in
theorem lengths_lifted (os : Os) (started : os.Started) (H : Type) (enc : TypeId × Value → H) :
    ReturnsInHanded {} Try.checked os 6 .any (Rows.mathsLengthsSpec.pre6 enc Try.prog Try.f6 [] false) (Rows.mathsLengthsSpec.post enc Try.prog Try.f6 false true false false) :=
  lift_law (C := Try.checked) own laidOut started (by kernel_rfl) Try.func6 (T := 4) rfl Try.underlying4 rfl (by kernel_rfl)
    (ChangeSpec.witness6 (enc := enc) (C := Try.checked) false ⟨#[], #[.agg #[.int .i32 0, .int .i32 0, .int .i32 0, .int .i32 0], .int .i64 0], []⟩ 8 (by kernel_rfl) (by kernel_rfl) (by kernel_rfl) (by kernel_rfl)) (lengths_owes H enc)

theorem mathsLengths_holds : Rows.MathsLengthsSaid :=
  OpenClaim.holds_of_wide 6 Try.f6 rfl rfl rfl rfl rfl rfl rfl ⟨rfl, rfl, rfl, rfl, rfl⟩ rfl rfl rfl rfl rfl (by kernel_rfl) Try.func6 (by kernel_rfl)
    (of_decide_eq_true (by kernel_rfl)) (by unfold Func.isWrapper; rw [if_neg (of_decide_eq_false (by kernel_rfl))]; exact ⟨rfl, rfl⟩)
    (fun os started H enc _ => lengths_lifted os started H enc)
#print axioms mathsLengths_holds
end Go.Proofs.Ytlggecbbliihiaa
