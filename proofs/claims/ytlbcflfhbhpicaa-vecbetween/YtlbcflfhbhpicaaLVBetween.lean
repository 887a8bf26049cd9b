/-
  Proved: VecBetween answers true for every size, pair of vectors and vector: Mix and Clamp answer as the document says, or ErrArg and nothing but 0. No condition.
-/
import Derived.Test.YtlbcflfhbhpicaaVF
import Derived.Test.YtlbcflfhbhpicaaVW
import Derived.Test.YtlbcflfhbhpicaaVT
import Derived.Test.YtlbcflfhbhpicaaQv
namespace Go.Proofs.Ytlbcflfhbhpicaa
open Go.ChangeShapes Go.WideShapes Go.ChangeAt Go.RowKit
set_option linter.unusedVariables false

set_option maxHeartbeats 4000000 in
theorem between_off (n : Int) (a b t : Nat → Int) (w : World) (h : n < 1 ∨ 4 < n) :
    Calls Try.prog 6 #[.int .i64 n, .agg #[.int .i32 (a 0), .int .i32 (a 1), .int .i32 (a 2), .int .i32 (a 3), .int .i32 (b 0), .int .i32 (b 1), .int .i32 (b 2), .int .i32 (b 3)], .agg #[.int .i32 (t 0), .int .i32 (t 1), .int .i32 (t 2), .int .i32 (t 3)]] w fun e w' => e = .returned (.bool true) ∧ Ext w w' := by
  have hE := eqV
  have hd : (decide (n < 1) || decide (4 < n)) = true := by simp; omega
  have H := hide h
  clear h
  go_enter Try.func6, Try.ntmps6
  go_wp2_with fail
  refine (wakes_any _).mono ?_
  rintro e w1 ⟨rfl, hx1⟩
  have B := hide (((Blk.at (cs := #[.int .i32 (a 0), .int .i32 (a 1), .int .i32 (a 2), .int .i32 (a 3), .int .i32 (b 0), .int .i32 (b 1), .int .i32 (b 2), .int .i32 (b 3)]) (t := 26) (rfl : w.heap.size = w.heap.size)).alloc _).ext hx1)
  have C := hide ((Blk.at (b := w.heap.size + 1) (cs := #[.int .i32 (t 0), .int .i32 (t 1), .int .i32 (t 2), .int .i32 (t 3)]) (t := 24) (by simp)).ext hx1)
  have X := hide ((((Ext.refl w).alloc _).alloc _).trans hx1)
  clear hx1
  obtain ⟨⟨p0, p1, p2, p3⟩, p4, p5, p6, p7⟩ := (unhide B).pair
  obtain ⟨t0, t1, t2, t3⟩ := (unhide C).vec4
  go_wp2_with fail
  refine (mixV_off n a b t _ (unhide H)).mono ?_
  rintro e w2 ⟨rfl, hx2⟩
  have B2 := hide (((unhide B).ext hx2).alloc (.cells #[.int .i32 (nul 0), .int .i32 (nul 1), .int .i32 (nul 2), .int .i32 (nul 3)] 24))
  have C2 := hide (((unhide C).ext hx2).alloc (.cells #[.int .i32 (nul 0), .int .i32 (nul 1), .int .i32 (nul 2), .int .i32 (nul 3)] 24))
  have X2 := hide (((unhide X).trans hx2).alloc (.cells #[.int .i32 (nul 0), .int .i32 (nul 1), .int .i32 (nul 2), .int .i32 (nul 3)] 24))
  have V2 := hide (Blk.at (w := w2) (cs := #[.int .i32 (nul 0), .int .i32 (nul 1), .int .i32 (nul 2), .int .i32 (nul 3)]) (t := 24) rfl)
  clear hx2 B C X p0 p1 p2 p3 p4 p5 p6 p7 t0 t1 t2 t3
  unfold nul at B2 C2 X2
  obtain ⟨⟨p0, p1, p2, p3⟩, p4, p5, p6, p7⟩ := (unhide B2).pair
  obtain ⟨t0, t1, t2, t3⟩ := (unhide C2).vec4
  go_wp2_with fail
  refine (clampV_off n t a b _ (unhide H)).mono ?_
  rintro e w3 ⟨rfl, hx3⟩
  have X3 := hide (((unhide X2).trans hx3).alloc (.cells #[.int .i32 0, .int .i32 0, .int .i32 0, .int .i32 0] 24))
  have V3 := hide (((unhide V2).ext hx3).alloc (.cells #[.int .i32 0, .int .i32 0, .int .i32 0, .int .i32 0] 24))
  clear hx3 B2 C2 X2 V2 p0 p1 p2 p3 p4 p5 p6 p7 t0 t1 t2 t3
  obtain ⟨c0, c1, c2, c3⟩ := (unhide V3).vec4
  unfold nul at c0 c1 c2 c3
  go_wp2
  all_goals (first | (exfalso; simp at hd; omega) | (go_ret; exact ⟨by simp, unhide X3⟩))

set_option maxHeartbeats 4000000 in
theorem between_any (n : Int) (a b t : Nat → Int) (w : World) (h1 : 1 ≤ n) (h4 : n ≤ 4) (Ia : ∀ i, I32 (a i)) (Ib : ∀ i, I32 (b i)) (It : ∀ i, I32 (t i)) :
    Calls Try.prog 6 #[.int .i64 n, .agg #[.int .i32 (a 0), .int .i32 (a 1), .int .i32 (a 2), .int .i32 (a 3), .int .i32 (b 0), .int .i32 (b 1), .int .i32 (b 2), .int .i32 (b 3)], .agg #[.int .i32 (t 0), .int .i32 (t 1), .int .i32 (t 2), .int .i32 (t 3)]] w fun e w' => e = .returned (.bool true) ∧ Ext w w' := by
  have hE := eqV
  have d1 : decide (n < 1) = false := by simp; omega
  have d4 : decide (4 < n) = false := by simp; omega
  have HM : Hid (∀ W, Calls Try.prog 19 #[.int .i64 n, .agg #[.int .i32 (a 0), .int .i32 (a 1), .int .i32 (a 2), .int .i32 (a 3)], .agg #[.int .i32 (b 0), .int .i32 (b 1), .int .i32 (b 2), .int .i32 (b 3)], .agg #[.int .i32 (t 0), .int .i32 (t 1), .int .i32 (t 2), .int .i32 (t 3)]] W fun e w' => e = .returned (.tuple #[.agg #[.int .i32 (cut n (fun i => addI (a i) (mulI (subI (b i) (a i)) (t i))) 0), .int .i32 (cut n (fun i => addI (a i) (mulI (subI (b i) (a i)) (t i))) 1), .int .i32 (cut n (fun i => addI (a i) (mulI (subI (b i) (a i)) (t i))) 2), .int .i32 (cut n (fun i => addI (a i) (mulI (subI (b i) (a i)) (t i))) 3)], .int .i64 0]) ∧ Ext W w') := fun W => mixV_any n a b t W h1 h4 Ia Ib It
  have HC : Hid (∀ W, Calls Try.prog 20 #[.int .i64 n, .agg #[.int .i32 (t 0), .int .i32 (t 1), .int .i32 (t 2), .int .i32 (t 3)], .agg #[.int .i32 (a 0), .int .i32 (a 1), .int .i32 (a 2), .int .i32 (a 3)], .agg #[.int .i32 (b 0), .int .i32 (b 1), .int .i32 (b 2), .int .i32 (b 3)]] W fun e w' => e = .returned (.tuple #[.agg #[.int .i32 (cut n (fun i => clampI (t i) (a i) (b i)) 0), .int .i32 (cut n (fun i => clampI (t i) (a i) (b i)) 1), .int .i32 (cut n (fun i => clampI (t i) (a i) (b i)) 2), .int .i32 (cut n (fun i => clampI (t i) (a i) (b i)) 3)], .int .i64 0]) ∧ Ext W w') := fun W => clampV_any n t a b W h1 h4
  have HM2 : Hid (∀ W, Calls Try.prog 21 #[.int .i64 n, .agg #[.int .i32 (a 0), .int .i32 (a 1), .int .i32 (a 2), .int .i32 (a 3)], .agg #[.int .i32 (b 0), .int .i32 (b 1), .int .i32 (b 2), .int .i32 (b 3)], .agg #[.int .i32 (t 0), .int .i32 (t 1), .int .i32 (t 2), .int .i32 (t 3)]] W fun e w' => e = .returned (.agg #[.int .i32 (cut n (fun i => addI (a i) (mulI (subI (b i) (a i)) (t i))) 0), .int .i32 (cut n (fun i => addI (a i) (mulI (subI (b i) (a i)) (t i))) 1), .int .i32 (cut n (fun i => addI (a i) (mulI (subI (b i) (a i)) (t i))) 2), .int .i32 (cut n (fun i => addI (a i) (mulI (subI (b i) (a i)) (t i))) 3)]) ∧ Ext W w') := fun W => refMix_any n a b t W h1 h4 Ia Ib It
  have HC2 : Hid (∀ W, Calls Try.prog 22 #[.int .i64 n, .agg #[.int .i32 (t 0), .int .i32 (t 1), .int .i32 (t 2), .int .i32 (t 3)], .agg #[.int .i32 (a 0), .int .i32 (a 1), .int .i32 (a 2), .int .i32 (a 3)], .agg #[.int .i32 (b 0), .int .i32 (b 1), .int .i32 (b 2), .int .i32 (b 3)]] W fun e w' => e = .returned (.agg #[.int .i32 (cut n (fun i => clampI (t i) (a i) (b i)) 0), .int .i32 (cut n (fun i => clampI (t i) (a i) (b i)) 1), .int .i32 (cut n (fun i => clampI (t i) (a i) (b i)) 2), .int .i32 (cut n (fun i => clampI (t i) (a i) (b i)) 3)]) ∧ Ext W w') := fun W => refClampV_any n t a b W h1 h4 It Ia Ib
  generalize cut n (fun i => addI (a i) (mulI (subI (b i) (a i)) (t i))) = m at *
  generalize cut n (fun i => clampI (t i) (a i) (b i)) = c at *
  clear Ia Ib It
  go_enter Try.func6, Try.ntmps6
  go_wp2_with fail
  refine (wakes_any _).mono ?_
  rintro e w1 ⟨rfl, hx1⟩
  have B := hide (((Blk.at (cs := #[.int .i32 (a 0), .int .i32 (a 1), .int .i32 (a 2), .int .i32 (a 3), .int .i32 (b 0), .int .i32 (b 1), .int .i32 (b 2), .int .i32 (b 3)]) (t := 26) (rfl : w.heap.size = w.heap.size)).alloc _).ext hx1)
  have C := hide ((Blk.at (b := w.heap.size + 1) (cs := #[.int .i32 (t 0), .int .i32 (t 1), .int .i32 (t 2), .int .i32 (t 3)]) (t := 24) (by simp)).ext hx1)
  have X := hide ((((Ext.refl w).alloc _).alloc _).trans hx1)
  clear hx1
  obtain ⟨⟨p0, p1, p2, p3⟩, p4, p5, p6, p7⟩ := (unhide B).pair
  obtain ⟨t0, t1, t2, t3⟩ := (unhide C).vec4
  go_wp2_with fail
  refine (unhide HM _).mono ?_
  rintro e w2 ⟨rfl, hx2⟩
  have B2 := hide (((unhide B).ext hx2).alloc (.cells #[.int .i32 (m 0), .int .i32 (m 1), .int .i32 (m 2), .int .i32 (m 3)] 24))
  have C2 := hide (((unhide C).ext hx2).alloc (.cells #[.int .i32 (m 0), .int .i32 (m 1), .int .i32 (m 2), .int .i32 (m 3)] 24))
  have X2 := hide (((unhide X).trans hx2).alloc (.cells #[.int .i32 (m 0), .int .i32 (m 1), .int .i32 (m 2), .int .i32 (m 3)] 24))
  have V2 := hide (Blk.at (w := w2) (cs := #[.int .i32 (m 0), .int .i32 (m 1), .int .i32 (m 2), .int .i32 (m 3)]) (t := 24) rfl)
  clear hx2 B C X p0 p1 p2 p3 p4 p5 p6 p7 t0 t1 t2 t3
  obtain ⟨⟨p0, p1, p2, p3⟩, p4, p5, p6, p7⟩ := (unhide B2).pair
  obtain ⟨t0, t1, t2, t3⟩ := (unhide C2).vec4
  go_wp2_with fail
  refine (unhide HC _).mono ?_
  rintro e w3 ⟨rfl, hx3⟩
  have B3 := hide (((unhide B2).ext hx3).alloc (.cells #[.int .i32 (c 0), .int .i32 (c 1), .int .i32 (c 2), .int .i32 (c 3)] 24))
  have C3 := hide (((unhide C2).ext hx3).alloc (.cells #[.int .i32 (c 0), .int .i32 (c 1), .int .i32 (c 2), .int .i32 (c 3)] 24))
  have X3 := hide (((unhide X2).trans hx3).alloc (.cells #[.int .i32 (c 0), .int .i32 (c 1), .int .i32 (c 2), .int .i32 (c 3)] 24))
  have V3 := hide (((unhide V2).ext hx3).alloc (.cells #[.int .i32 (c 0), .int .i32 (c 1), .int .i32 (c 2), .int .i32 (c 3)] 24))
  have Y3 := hide (Blk.at (w := w3) (cs := #[.int .i32 (c 0), .int .i32 (c 1), .int .i32 (c 2), .int .i32 (c 3)]) (t := 24) rfl)
  clear hx3 B2 C2 X2 V2 p0 p1 p2 p3 p4 p5 p6 p7 t0 t1 t2 t3
  have LA := later_vec (unhide V3)
  have LB := later_vec (unhide Y3)
  have LC := later_vec (unhide C3)
  have LP := later_pair (unhide B3)
  obtain ⟨a0, a1, a2, a3⟩ := LA
  obtain ⟨b0, b1, b2, b3⟩ := LB
  obtain ⟨c0, c1, c2, c3⟩ := LC
  obtain ⟨⟨p0, p1, p2, p3⟩, p4, p5, p6, p7⟩ := LP
  have hne := Later.some (w3.alloc (.cells #[.int .i32 (c 0), .int .i32 (c 1), .int .i32 (c 2), .int .i32 (c 3)] 24))
  go_wp2
  refine wp_region_later (by kernel_rfl) (by kernel_rfl) ?_
  repeat (go_big_quiet_step (first | (go_at_call 21; refine calls_later (unhide HM2 _)) | (go_at_call 22; refine calls_later (unhide HC2 _))))
  refine wpQuiet_nil ?_
  rintro _ ⟨x, rfl⟩
  go_wp2
  go_ret
  exact ⟨by simp, (unhide X3).trans x.ext⟩

theorem between_owes (H : Type) (enc : TypeId × Value → H) (W : World) (base : Nat) (args : Array Value) (ds : List (DataW H)) (p : List MemPlace) : Owes H enc Try.prog 6 Try.f6 Rows.vecBetweenSpec W base args ds p := by
  intro hval hA hsz
  rw [Try.params6] at hA hval hsz
  obtain ⟨v0, vs0, d0, ds0, p0, q0, hargs, rfl, rfl, h0, r0⟩ := trodAll_cons hA
  obtain ⟨v1, vs1, d1, ds1, p1, q1, rfl, rfl, rfl, h1, r1⟩ := trodAll_cons r0
  obtain ⟨v2, vs2, d2, ds2, p2, q2, rfl, rfl, rfl, h2, r2⟩ := trodAll_cons r1
  obtain ⟨rfl, rfl, rfl⟩ := trodAll_nil r2
  obtain rfl : args = #[v0, v1, v2] := by cases args; simp_all
  obtain ⟨n, rfl, rfl, rfl, wn⟩ := open_int Try.underlying3 (hval 0 3 v0 rfl rfl) h0
  obtain ⟨a, b, rfl, Ia, Ib⟩ := open_pair (hval 1 26 v1 rfl rfl) h1
  obtain ⟨t, rfl, It⟩ := open_vec (hval 2 24 v2 rfl rfl) h2
  refine ⟨⟨rfl, rfl, rfl⟩, ?_⟩
  by_cases h : n < 1 ∨ 4 < n
  · exact between_off n a b t W h
  · exact between_any n a b t W (by omega) (by omega) Ia Ib It

set_option maxRecDepth 100000 in
theorem between_lifted (os : Os) (started : os.Started) (H : Type) (enc : TypeId × Value → H) :
    ReturnsInHanded {} Try.checked os 6 .any (Rows.vecBetweenSpec.pre6 enc Try.prog Try.f6 [] false) (Rows.vecBetweenSpec.post enc Try.prog Try.f6 false true false false) :=
  lift_law (C := Try.checked) own laidOut started (by kernel_rfl) Try.func6 (T := 4) rfl Try.underlying4 rfl (by kernel_rfl)
    (ChangeSpec.witness6 (enc := enc) (C := Try.checked) false ⟨#[], #[.int .i64 0, .agg #[.int .i32 0, .int .i32 0, .int .i32 0, .int .i32 0, .int .i32 0, .int .i32 0, .int .i32 0, .int .i32 0], .agg #[.int .i32 0, .int .i32 0, .int .i32 0, .int .i32 0]], []⟩ 8 (by kernel_rfl) (by kernel_rfl) (by kernel_rfl) (by kernel_rfl)) (between_owes H enc)

theorem vecBetween_holds : Rows.VecBetweenSaid :=
  OpenClaim.holds_of_wide 6 Try.f6 rfl rfl rfl rfl rfl rfl rfl ⟨rfl, rfl, rfl, rfl, rfl⟩ rfl rfl rfl rfl rfl (by kernel_rfl) Try.func6 (by kernel_rfl)
    (of_decide_eq_true (by kernel_rfl)) (by unfold Func.isWrapper; rw [if_neg (of_decide_eq_false (by kernel_rfl))]; exact ⟨rfl, rfl⟩)
    (fun os started H enc _ => between_lifted os started H enc)
#print axioms vecBetween_holds
end Go.Proofs.Ytlbcflfhbhpicaa
