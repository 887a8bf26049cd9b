/-
  Proved: VecOnes answers true for every operation, size and vector: One and All answer as the document says, or ErrArg and nothing but 0. No condition.
-/
import Derived.Test.YtlbcflfhbhpicaaVF
import Derived.Test.YtlbcflfhbhpicaaVW
import Derived.Test.YtlbcflfhbhpicaaVS
import Derived.Test.YtlbcflfhbhpicaaQt
namespace Go.Proofs.Ytlbcflfhbhpicaa
open Go.ChangeShapes Go.WideShapes Go.ChangeAt Go.RowKit
set_option linter.unusedVariables false

theorem one_none (op n : Int) (a : Nat → Int) (w : World) (h : op < 0 ∨ 4 < op ∨ n < 1 ∨ 4 < n) :
    Calls Try.prog 12 #[.int .i64 op, .int .i64 n, .agg #[.int .i32 (a 0), .int .i32 (a 1), .int .i32 (a 2), .int .i32 (a 3)]] w fun e w' => e = .returned (.tuple #[.agg #[.int .i32 0, .int .i32 0, .int .i32 0, .int .i32 0], .int .i64 2]) ∧ Ext w w' := by
  by_cases h1 : op < 0 ∨ 4 < op
  · exact one_bad op n a w h1
  · exact one_off op n a w (by omega) (by omega) (by omega)

/-- n is no size: both are refused. -/
theorem ones_off (op n : Int) (a : Nat → Int) (w : World) (h : n < 1 ∨ 4 < n) :
    Calls Try.prog 4 #[.int .i64 op, .int .i64 n, .agg #[.int .i32 (a 0), .int .i32 (a 1), .int .i32 (a 2), .int .i32 (a 3)]] w fun e w' => e = .returned (.bool true) ∧ Ext w w' := by
  have hE := eqV
  have hd : (decide (n < 1) || decide (4 < n)) = true := by simp; omega
  have H := hide h
  clear h
  go_enter Try.func4, Try.ntmps4
  go_wp2_with fail
  refine (wakes_any _).mono ?_
  rintro e w1 ⟨rfl, hx1⟩
  have B := hide ((Blk.at (cs := #[.int .i32 (a 0), .int .i32 (a 1), .int .i32 (a 2), .int .i32 (a 3)]) (t := 24) (rfl : w.heap.size = w.heap.size)).ext hx1)
  have X := hide (((Ext.refl w).alloc _).trans hx1)
  clear hx1
  obtain ⟨p0, p1, p2, p3⟩ := (unhide B).vec4
  go_wp2_with fail
  refine (one_none op n a _ (.inr (.inr (unhide H)))).mono ?_
  rintro e w2 ⟨rfl, hx2⟩
  have B2 := hide (((unhide B).ext hx2).alloc (.cells #[.int .i32 0, .int .i32 0, .int .i32 0, .int .i32 0] 24))
  have X2 := hide (((unhide X).trans hx2).alloc (.cells #[.int .i32 0, .int .i32 0, .int .i32 0, .int .i32 0] 24))
  have V2 := hide (Blk.at (w := w2) (cs := #[.int .i32 (nul 0), .int .i32 (nul 1), .int .i32 (nul 2), .int .i32 (nul 3)]) (t := 24) rfl)
  clear hx2 B X p0 p1 p2 p3
  obtain ⟨p0, p1, p2, p3⟩ := (unhide B2).vec4
  go_wp2_with fail
  refine (all_off n (a 0) _ (unhide H)).mono ?_
  rintro e w3 ⟨rfl, hx3⟩
  have X3 := hide (((unhide X2).trans hx3).alloc (.cells #[.int .i32 0, .int .i32 0, .int .i32 0, .int .i32 0] 24))
  have V3 := hide (((unhide V2).ext hx3).alloc (.cells #[.int .i32 0, .int .i32 0, .int .i32 0, .int .i32 0] 24))
  clear hx3 B2 X2 V2 p0 p1 p2 p3
  obtain ⟨c0, c1, c2, c3⟩ := (unhide V3).vec4
  unfold nul at c0 c1 c2 c3
  go_wp2
  all_goals (first | (exfalso; simp at hd; omega) | (go_ret; exact ⟨by simp, unhide X3⟩))

set_option maxHeartbeats 4000000 in
theorem ones_any (op n : Int) (a : Nat → Int) (w : World) (h1 : 1 ≤ n) (h4 : n ≤ 4) (Ia : ∀ i, I32 (a i)) :
    Calls Try.prog 4 #[.int .i64 op, .int .i64 n, .agg #[.int .i32 (a 0), .int .i32 (a 1), .int .i32 (a 2), .int .i32 (a 3)]] w fun e w' => e = .returned (.bool true) ∧ Ext w w' := by
  have hE := eqV
  have d1 : decide (n < 1) = false := by simp; omega
  have d4 : decide (4 < n) = false := by simp; omega
  have HI := hide Ia
  clear Ia
  -- what One answers
  obtain ⟨r, er, HR, HQ⟩ : ∃ (r : Nat → Int) (er : Int), Hid (∀ W, Calls Try.prog 12 #[.int .i64 op, .int .i64 n, .agg #[.int .i32 (a 0), .int .i32 (a 1), .int .i32 (a 2), .int .i32 (a 3)]] W fun e w' => e = .returned (.tuple #[.agg #[.int .i32 (r 0), .int .i32 (r 1), .int .i32 (r 2), .int .i32 (r 3)], .int .i64 er]) ∧ Ext W w') ∧
      Hid ((op < 0 ∨ 4 < op) ∧ r = nul ∧ er = 2 ∨ (0 ≤ op ∧ op ≤ 4) ∧ r = cut n (fun i => oneI op (a i)) ∧ er = 0) := by
    by_cases h : op < 0 ∨ 4 < op
    · exact ⟨nul, 2, fun W => one_bad op n a W h, .inl ⟨h, rfl, rfl⟩⟩
    · exact ⟨cut n (fun i => oneI op (a i)), 0, fun W => one_any op n a W (by omega) (by omega) h1 h4 (unhide HI), .inr ⟨by omega, rfl, rfl⟩⟩
  go_enter Try.func4, Try.ntmps4
  go_wp2_with fail
  refine (wakes_any _).mono ?_
  rintro e w1 ⟨rfl, hx1⟩
  have B := hide ((Blk.at (cs := #[.int .i32 (a 0), .int .i32 (a 1), .int .i32 (a 2), .int .i32 (a 3)]) (t := 24) (rfl : w.heap.size = w.heap.size)).ext hx1)
  have X := hide (((Ext.refl w).alloc _).trans hx1)
  clear hx1
  obtain ⟨p0, p1, p2, p3⟩ := (unhide B).vec4
  go_wp2_with fail
  refine (unhide HR _).mono ?_
  rintro e w2 ⟨rfl, hx2⟩
  have B2 := hide (((unhide B).ext hx2).alloc (.cells #[.int .i32 (r 0), .int .i32 (r 1), .int .i32 (r 2), .int .i32 (r 3)] 24))
  have X2 := hide (((unhide X).trans hx2).alloc (.cells #[.int .i32 (r 0), .int .i32 (r 1), .int .i32 (r 2), .int .i32 (r 3)] 24))
  have V2 := hide (Blk.at (w := w2) (cs := #[.int .i32 (r 0), .int .i32 (r 1), .int .i32 (r 2), .int .i32 (r 3)]) (t := 24) rfl)
  clear hx2 B X p0 p1 p2 p3 HR
  obtain ⟨p0, p1, p2, p3⟩ := (unhide B2).vec4
  go_wp2_with fail
  refine (all_any n (a 0) _ h1 h4).mono ?_
  rintro e w3 ⟨rfl, hx3⟩
  have B3 := hide (((unhide B2).ext hx3).alloc (.cells #[.int .i32 (cut n (fun _ => a 0) 0), .int .i32 (cut n (fun _ => a 0) 1), .int .i32 (cut n (fun _ => a 0) 2), .int .i32 (cut n (fun _ => a 0) 3)] 24))
  have X3 := hide (((unhide X2).trans hx3).alloc (.cells #[.int .i32 (cut n (fun _ => a 0) 0), .int .i32 (cut n (fun _ => a 0) 1), .int .i32 (cut n (fun _ => a 0) 2), .int .i32 (cut n (fun _ => a 0) 3)] 24))
  have V3 := hide (((unhide V2).ext hx3).alloc (.cells #[.int .i32 (cut n (fun _ => a 0) 0), .int .i32 (cut n (fun _ => a 0) 1), .int .i32 (cut n (fun _ => a 0) 2), .int .i32 (cut n (fun _ => a 0) 3)] 24))
  have A3 := hide (Blk.at (w := w3) (cs := #[.int .i32 (cut n (fun _ => a 0) 0), .int .i32 (cut n (fun _ => a 0) 1), .int .i32 (cut n (fun _ => a 0) 2), .int .i32 (cut n (fun _ => a 0) 3)]) (t := 24) rfl)
  clear hx3 B2 X2 V2 p0 p1 p2 p3
  go_wp2
  generalize w3.alloc (.cells #[.int .i32 (cut n (fun _ => a 0) 0), .int .i32 (cut n (fun _ => a 0) 1), .int .i32 (cut n (fun _ => a 0) 2), .int .i32 (cut n (fun _ => a 0) 3)] 24) = w4 at *
  go_loopw [50] (fun i wr => ∃ k : Nat, k ≤ 4 ∧ i = .int .i64 k ∧ ∃ m, wr = w4.drewN m) (fun i _ => 4 - (intOf i).toNat)
  case atStart => exact ⟨0, by omega, rfl, 0, rfl⟩
  case round =>
    obtain ⟨k, hk, rfl, m, rfl⟩ := hrel
    by_cases hlt : k < 4
    · have hki : (k : Int) < 4 := by omega
      have c0 := (unhide A3).vec k hlt
      have p0 := (unhide B3).vec 0 (by omega)
      by_cases hkn : (k : Int) < n
      · have dk : decide ((k : Int) < n) = true := by simp; omega
        have dg : decide (n ≤ (k : Int)) = false := by simp; omega
        have E : Hid (cut n (fun _ => a 0) k = a 0) := by simp [Hid, cut, hkn]
        rw [unhide E] at c0
        have ne : (a 0 != a 0) = false := by simp
        go_wp2
        go_quiet (fail)
        go_wp2
        go_roundw
        case rel => exact ⟨k + 1, by omega, by go_num, _, rfl⟩
        case measure => simp [intOf]; omega
      · have dk : decide ((k : Int) < n) = false := by simp; omega
        have dg : decide (n ≤ (k : Int)) = true := by simp; omega
        have E : Hid (cut n (fun _ => a 0) k = 0) := by simp [Hid, cut, hkn]
        rw [unhide E] at c0
        go_wp2
        go_quiet (fail)
        go_wp2
        go_roundw
        case rel => exact ⟨k + 1, by omega, by go_num, _, rfl⟩
        case measure => simp [intOf]; omega
    · obtain ⟨c0, c1, c2, c3⟩ := (unhide V3).vec4
      rcases unhide HQ with ⟨ho, hr, he⟩ | ⟨⟨h0, h5⟩, hr, he⟩
      · subst hr he
        have hd : (decide (op < 0) || decide (4 < op)) = true := by simp; omega
        unfold nul at c0 c1 c2 c3
        go_wp2
        all_goals (first | (exfalso; simp at hd; omega) | (go_ret; exact ⟨by simp, (unhide X3).drewN m⟩))
      · subst hr he
        have d0 : decide (op < 0) = false := by simp; omega
        have d5 : decide (4 < op) = false := by simp; omega
        clear c0 c1 c2 c3
        obtain ⟨c0, c1, c2, c3⟩ := ((unhide V3).drewN m).vec4
        obtain ⟨p0, p1, p2, p3⟩ := ((unhide B3).drewN m).vec4
        have l0 := cell_later p0
        have l1 := cell_later p1
        have l2 := cell_later p2
        have l3 := cell_later p3
        have m0 := cell_later c0
        have m1 := cell_later c1
        have m2 := cell_later c2
        have m3 := cell_later c3
        clear p0 p1 p2 p3 c0 c1 c2 c3
        have hne := Later.some (w4.drewN m)
        go_wp2
        refine wp_region_later (by kernel_rfl) (by kernel_rfl) ?_
        repeat (go_big_quiet_step (first | (go_at_call 14; refine calls_later (refOnes_any op n a _ h0 h5 h1 h4 (unhide HI)))))
        refine wpQuiet_nil ?_
        rintro _ ⟨x, rfl⟩
        go_wp2
        go_ret
        exact ⟨by simp, ((unhide X3).drewN m).trans x.ext⟩

theorem ones_owes (H : Type) (enc : TypeId × Value → H) (W : World) (base : Nat) (args : Array Value) (ds : List (DataW H)) (p : List MemPlace) : Owes H enc Try.prog 4 Try.f4 Rows.vecOnesSpec W base args ds p := by
  intro hval hA hsz
  rw [Try.params4] at hA hval hsz
  obtain ⟨v0, vs0, d0, ds0, p0, q0, hargs, rfl, rfl, h0, r0⟩ := trodAll_cons hA
  obtain ⟨v1, vs1, d1, ds1, p1, q1, rfl, rfl, rfl, h1, r1⟩ := trodAll_cons r0
  obtain ⟨v2, vs2, d2, ds2, p2, q2, rfl, rfl, rfl, h2, r2⟩ := trodAll_cons r1
  obtain ⟨rfl, rfl, rfl⟩ := trodAll_nil r2
  obtain rfl : args = #[v0, v1, v2] := by cases args; simp_all
  obtain ⟨op, rfl, rfl, rfl, wo⟩ := open_int Try.underlying3 (hval 0 3 v0 rfl rfl) h0
  obtain ⟨n, rfl, rfl, rfl, wn⟩ := open_int Try.underlying3 (hval 1 3 v1 rfl rfl) h1
  obtain ⟨a, rfl, Ia⟩ := open_vec (hval 2 24 v2 rfl rfl) h2
  refine ⟨⟨rfl, rfl, rfl⟩, ?_⟩
  by_cases h : n < 1 ∨ 4 < n
  · exact ones_off op n a W h
  · exact ones_any op n a W (by omega) (by omega) Ia

set_option maxRecDepth 100000 in
theorem ones_lifted (os : Os) (started : os.Started) (H : Type) (enc : TypeId × Value → H) :
    ReturnsInHanded {} Try.checked os 4 .any (Rows.vecOnesSpec.pre6 enc Try.prog Try.f4 [] false) (Rows.vecOnesSpec.post enc Try.prog Try.f4 false true false false) :=
  lift_law (C := Try.checked) own laidOut started (by kernel_rfl) Try.func4 (T := 4) rfl Try.underlying4 rfl (by kernel_rfl)
    (ChangeSpec.witness6 (enc := enc) (C := Try.checked) false ⟨#[], #[.int .i64 0, .int .i64 0, .agg #[.int .i32 0, .int .i32 0, .int .i32 0, .int .i32 0]], []⟩ 8 (by kernel_rfl) (by kernel_rfl) (by kernel_rfl) (by kernel_rfl)) (ones_owes H enc)

theorem vecOnes_holds : Rows.VecOnesSaid :=
  OpenClaim.holds_of_wide 4 Try.f4 rfl rfl rfl rfl rfl rfl rfl ⟨rfl, rfl, rfl, rfl, rfl⟩ rfl rfl rfl rfl rfl (by kernel_rfl) Try.func4 (by kernel_rfl)
    (of_decide_eq_true (by kernel_rfl)) (by unfold Func.isWrapper; rw [if_neg (of_decide_eq_false (by kernel_rfl))]; exact ⟨rfl, rfl⟩)
    (fun os started H enc _ => ones_lifted os started H enc)
#print axioms vecOnes_holds
end Go.Proofs.Ytlbcflfhbhpicaa
