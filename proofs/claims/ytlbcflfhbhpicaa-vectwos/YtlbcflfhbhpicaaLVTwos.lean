/-
  Proved: VecTwos answers true for every operation, size and pair of vectors: Two answers as the document says, or ErrArg and nothing but 0. No condition.
-/
import Derived.Test.YtlbcflfhbhpicaaVF
import Derived.Test.YtlbcflfhbhpicaaVW
import Derived.Test.YtlbcflfhbhpicaaVR
import Derived.Test.YtlbcflfhbhpicaaQt
namespace Go.Proofs.Ytlbcflfhbhpicaa
open Go.ChangeShapes Go.WideShapes Go.ChangeAt Go.RowKit
set_option linter.unusedVariables false

set_option maxHeartbeats 2000000 in
theorem twos_good (op n : Int) (a b : Nat → Int) (w : World) (h0 : 0 ≤ op) (h7 : op ≤ 7) (h1 : 1 ≤ n) (h4 : n ≤ 4) (Ia : ∀ i, I32 (a i)) (Ib : ∀ i, I32 (b i)) :
    Calls Try.prog 3 #[.int .i64 op, .int .i64 n, .agg #[.int .i32 (a 0), .int .i32 (a 1), .int .i32 (a 2), .int .i32 (a 3), .int .i32 (b 0), .int .i32 (b 1), .int .i32 (b 2), .int .i32 (b 3)]] w fun e w' => e = .returned (.bool true) ∧ Ext w w' := by
  have hE := eqV
  have d0 : decide (op < 0) = false := by simp; omega
  have d7 : decide (7 < op) = false := by simp; omega
  have d1 : decide (n < 1) = false := by simp; omega
  have d4 : decide (4 < n) = false := by simp; omega
  go_enter Try.func3, Try.ntmps3
  go_wp2_with fail
  refine (wakes_any _).mono ?_
  rintro e w1 ⟨rfl, hx1⟩
  have B := hide ((Blk.at (cs := #[.int .i32 (a 0), .int .i32 (a 1), .int .i32 (a 2), .int .i32 (a 3), .int .i32 (b 0), .int .i32 (b 1), .int .i32 (b 2), .int .i32 (b 3)]) (t := 26) (rfl : w.heap.size = w.heap.size)).ext hx1)
  have X := hide (((Ext.refl w).alloc _).trans hx1)
  clear hx1
  obtain ⟨⟨p0, p1, p2, p3⟩, p4, p5, p6, p7⟩ := (unhide B).pair
  go_wp2_with fail
  refine (two_any op n a b _ h0 h7 h1 h4 Ia Ib).mono ?_
  rintro e w2 ⟨rfl, hx2⟩
  clear p0 p1 p2 p3 p4 p5 p6 p7
  have B2 := hide (((unhide B).ext hx2).alloc (.cells #[.int .i32 (cut n (fun i => twoI op (a i) (b i)) 0), .int .i32 (cut n (fun i => twoI op (a i) (b i)) 1), .int .i32 (cut n (fun i => twoI op (a i) (b i)) 2), .int .i32 (cut n (fun i => twoI op (a i) (b i)) 3)] 24))
  have X2 := hide (((unhide X).trans hx2).alloc (.cells #[.int .i32 (cut n (fun i => twoI op (a i) (b i)) 0), .int .i32 (cut n (fun i => twoI op (a i) (b i)) 1), .int .i32 (cut n (fun i => twoI op (a i) (b i)) 2), .int .i32 (cut n (fun i => twoI op (a i) (b i)) 3)] 24))
  have V2 := hide (Blk.at (w := w2) (cs := #[.int .i32 (cut n (fun i => twoI op (a i) (b i)) 0), .int .i32 (cut n (fun i => twoI op (a i) (b i)) 1), .int .i32 (cut n (fun i => twoI op (a i) (b i)) 2), .int .i32 (cut n (fun i => twoI op (a i) (b i)) 3)]) (t := 24) rfl)
  clear hx2 B X
  obtain ⟨⟨p0, p1, p2, p3⟩, p4, p5, p6, p7⟩ := (unhide B2).pair
  obtain ⟨c0, c1, c2, c3⟩ := (unhide V2).vec4
  have l0 := cell_later p0
  have l1 := cell_later p1
  have l2 := cell_later p2
  have l3 := cell_later p3
  have l4 := cell_later p4
  have l5 := cell_later p5
  have l6 := cell_later p6
  have l7 := cell_later p7
  have m0 := cell_later c0
  have m1 := cell_later c1
  have m2 := cell_later c2
  have m3 := cell_later c3
  clear p0 p1 p2 p3 p4 p5 p6 p7 c0 c1 c2 c3
  have hne := Later.some (w2.alloc (.cells #[.int .i32 (cut n (fun i => twoI op (a i) (b i)) 0), .int .i32 (cut n (fun i => twoI op (a i) (b i)) 1), .int .i32 (cut n (fun i => twoI op (a i) (b i)) 2), .int .i32 (cut n (fun i => twoI op (a i) (b i)) 3)] 24))
  go_wp2
  refine wp_region_later (by kernel_rfl) (by kernel_rfl) ?_
  repeat (go_big_quiet_step (first | (go_at_call 11; refine calls_later (refTwos_any op n a b _ h0 h7 h1 h4 Ia Ib))))
  refine wpQuiet_nil ?_
  rintro _ ⟨x, rfl⟩
  go_wp2
  go_ret
  exact ⟨by simp, (unhide X2).trans x.ext⟩

theorem two_none (op n : Int) (a b : Nat → Int) (w : World) (h : op < 0 ∨ 7 < op ∨ n < 1 ∨ 4 < n) :
    Calls Try.prog 10 #[.int .i64 op, .int .i64 n, .agg #[.int .i32 (a 0), .int .i32 (a 1), .int .i32 (a 2), .int .i32 (a 3)], .agg #[.int .i32 (b 0), .int .i32 (b 1), .int .i32 (b 2), .int .i32 (b 3)]] w fun e w' => e = .returned (.tuple #[.agg #[.int .i32 0, .int .i32 0, .int .i32 0, .int .i32 0], .int .i64 2]) ∧ Ext w w' := by
  by_cases h1 : op < 0 ∨ 7 < op
  · exact two_bad op n a b w h1
  · exact two_off op n a b w (by omega) (by omega) (by omega)

set_option maxHeartbeats 2000000 in
theorem twos_bad (op n : Int) (a b : Nat → Int) (w : World) (h : op < 0 ∨ 7 < op ∨ n < 1 ∨ 4 < n) :
    Calls Try.prog 3 #[.int .i64 op, .int .i64 n, .agg #[.int .i32 (a 0), .int .i32 (a 1), .int .i32 (a 2), .int .i32 (a 3), .int .i32 (b 0), .int .i32 (b 1), .int .i32 (b 2), .int .i32 (b 3)]] w fun e w' => e = .returned (.bool true) ∧ Ext w w' := by
  have hE := eqV
  have hd : (decide (op < 0) || decide (7 < op) || decide (n < 1) || decide (4 < n)) = true := by simp; omega
  have H := hide h
  clear h
  go_enter Try.func3, Try.ntmps3
  go_wp2_with fail
  refine (wakes_any _).mono ?_
  rintro e w1 ⟨rfl, hx1⟩
  have B := hide ((Blk.at (cs := #[.int .i32 (a 0), .int .i32 (a 1), .int .i32 (a 2), .int .i32 (a 3), .int .i32 (b 0), .int .i32 (b 1), .int .i32 (b 2), .int .i32 (b 3)]) (t := 26) (rfl : w.heap.size = w.heap.size)).ext hx1)
  have X := hide (((Ext.refl w).alloc _).trans hx1)
  clear hx1
  obtain ⟨⟨p0, p1, p2, p3⟩, p4, p5, p6, p7⟩ := (unhide B).pair
  go_wp2_with fail
  refine (two_none op n a b _ (unhide H)).mono ?_
  rintro e w2 ⟨rfl, hx2⟩
  have X2 := hide (((unhide X).trans hx2).alloc (.cells #[.int .i32 0, .int .i32 0, .int .i32 0, .int .i32 0] 24))
  clear hx2 B X p0 p1 p2 p3 p4 p5 p6 p7
  go_wp2
  all_goals (first | (exfalso; simp at hd; omega) | (go_ret; exact ⟨by simp, unhide X2⟩))

theorem twos_owes (H : Type) (enc : TypeId × Value → H) (W : World) (base : Nat) (args : Array Value) (ds : List (DataW H)) (p : List MemPlace) : Owes H enc Try.prog 3 Try.f3 Rows.vecTwosSpec W base args ds p := by
  intro hval hA hsz
  rw [Try.params3] at hA hval hsz
  obtain ⟨v0, vs0, d0, ds0, p0, q0, hargs, rfl, rfl, h0, r0⟩ := trodAll_cons hA
  obtain ⟨v1, vs1, d1, ds1, p1, q1, rfl, rfl, rfl, h1, r1⟩ := trodAll_cons r0
  obtain ⟨v2, vs2, d2, ds2, p2, q2, rfl, rfl, rfl, h2, r2⟩ := trodAll_cons r1
  obtain ⟨rfl, rfl, rfl⟩ := trodAll_nil r2
  obtain rfl : args = #[v0, v1, v2] := by cases args; simp_all
  obtain ⟨op, rfl, rfl, rfl, wo⟩ := open_int Try.underlying3 (hval 0 3 v0 rfl rfl) h0
  obtain ⟨n, rfl, rfl, rfl, wn⟩ := open_int Try.underlying3 (hval 1 3 v1 rfl rfl) h1
  obtain ⟨a, b, rfl, Ia, Ib⟩ := open_pair (hval 2 26 v2 rfl rfl) h2
  refine ⟨⟨rfl, rfl, rfl⟩, ?_⟩
  by_cases h : op < 0 ∨ 7 < op ∨ n < 1 ∨ 4 < n
  · exact twos_bad op n a b W h
  · exact twos_good op n a b W (by omega) (by omega) (by omega) (by omega) Ia Ib

set_option maxRecDepth 100000 in
theorem twos_lifted (os : Os) (started : os.Started) (H : Type) (enc : TypeId × Value → H) :
    ReturnsInHanded {} Try.checked os 3 .any (Rows.vecTwosSpec.pre6 enc Try.prog Try.f3 [] false) (Rows.vecTwosSpec.post enc Try.prog Try.f3 false true false false) :=
  lift_law (C := Try.checked) own laidOut started (by kernel_rfl) Try.func3 (T := 4) rfl Try.underlying4 rfl (by kernel_rfl)
    (ChangeSpec.witness6 (enc := enc) (C := Try.checked) false ⟨#[], #[.int .i64 0, .int .i64 0, .agg #[.int .i32 0, .int .i32 0, .int .i32 0, .int .i32 0, .int .i32 0, .int .i32 0, .int .i32 0, .int .i32 0]], []⟩ 8 (by kernel_rfl) (by kernel_rfl) (by kernel_rfl) (by kernel_rfl)) (twos_owes H enc)

theorem vecTwos_holds : Rows.VecTwosSaid :=
  OpenClaim.holds_of_wide 3 Try.f3 rfl rfl rfl rfl rfl rfl rfl ⟨rfl, rfl, rfl, rfl, rfl⟩ rfl rfl rfl rfl rfl (by kernel_rfl) Try.func3 (by kernel_rfl)
    (of_decide_eq_true (by kernel_rfl)) (by unfold Func.isWrapper; rw [if_neg (of_decide_eq_false (by kernel_rfl))]; exact ⟨rfl, rfl⟩)
    (fun os started H enc _ => twos_lifted os started H enc)
#print axioms vecTwos_holds
end Go.Proofs.Ytlbcflfhbhpicaa
