/-
  What operations do, the document's small functions: one, wrap, whole, alike, single.
-/
import Derived.Test.YtglfhmlcmffoaaaGreatVMDJ
import Derived.Test.YtglfhmlcmffoaaaGreatVRJ
import Derived.Test.YtglfhmlcmffoaaaGreatMQ
import Derived.Test.YtglfhmlcmffoaaaGreatMYJ
import Derived.Test.YtglfhmlcmffoaaaGreatVEJ
import Derived.Test.YtglfhmlcmffoaaaGreatMZ
import Derived.BigQuiet
namespace Go.Proofs.YtglfhmlcmffoaaaGreat
open Go.RowKit
set_option linter.unusedVariables false
set_option linter.unusedSimpArgs false

theorem refTru_any (b : Bool) (w : World) : Calls Tryz.prog 48 #[.bool b] w fun e w' => e = .returned (.int .i32 (truI b 0)) ∧ w' = w := by
  cases b
  all_goals
    go_enter Tryz.func48, Tryz.ntmps48
    go_wp2
    go_ret
    exact ⟨rfl, rfl⟩

theorem refWrap_any (x : Int) (w : World) : Calls Tryz.prog 84 #[.int .i64 x] w fun e w' => e = .returned (.int .i32 (w32 x)) ∧ w' = w := by
  have t1 : 4294967296 * x.tdiv 4294967296 + x.tmod 4294967296 = x := Int.mul_tdiv_add_tmod x 4294967296
  have t2 : x.tmod 4294967296 < 4294967296 := Int.tmod_lt_of_pos x (by omega)
  have t3 : -4294967296 < x.tmod 4294967296 := Int.lt_tmod_of_pos x (by omega)
  go_enter Tryz.func84, Tryz.ntmps84
  go_wp2
  all_goals go_ret
  all_goals refine ⟨congrArg (fun z => Ending.returned (Value.int .i32 z)) ?_, rfl⟩
  all_goals unfold w32
  all_goals first | (simp only [wrap32, wrap64] at *; omega) | (simp [wrap32, wrap64] at *; omega)

/-- What an operation does to whole numbers. -/
def whI (fn x y : Int) : Int := if fn = 24 then w32 (x + y) else if fn = 25 then w32 (x - y) else if fn = 26 then w32 (x * y) else if fn = 28 then w32 (-x) else quoI x y
theorem tdiv_i64 {x y : Int} (hx : I32 x) (hy : I32 y) : I64 (x.tdiv y) := by
  have h := Int.natAbs_tdiv_le_natAbs x y
  unfold I32 at hx
  unfold I64
  omega
set_option maxHeartbeats 1000000 in
theorem refWhole_any (fn x y : Int) (w : World) (hx : I32 x) (hy : I32 y) : Calls Tryz.prog 56 #[.int .i64 fn, .int .i64 x, .int .i64 y] w fun e w' => e = .returned (.int .i32 (whI fn x y)) ∧ w' = w := by
  have hm := mul_i32 hx hy
  have hd := tdiv_i64 hx hy
  unfold I64 at hd
  unfold I32 at hx hy
  by_cases e24 : fn = 24
  · subst e24
    have E : Hid (whI 24 x y = w32 (x + y)) := rfl
    go_enter Tryz.func56, Tryz.ntmps56
    go_wp2_with (go_at_call 84; refine (refWrap_any _ _).mono ?_; rintro e w1 ⟨rfl, rfl⟩)
    go_ret
    exact ⟨by rw [unhide E] <;> rfl, rfl⟩
  have d24 : (fn == 24) = false := by simp [e24]
  by_cases e25 : fn = 25
  · subst e25
    have E : Hid (whI 25 x y = w32 (x - y)) := rfl
    go_enter Tryz.func56, Tryz.ntmps56
    go_wp2_with (go_at_call 84; refine (refWrap_any _ _).mono ?_; rintro e w1 ⟨rfl, rfl⟩)
    go_ret
    exact ⟨by rw [unhide E] <;> rfl, rfl⟩
  have d25 : (fn == 25) = false := by simp [e25]
  by_cases e26 : fn = 26
  · subst e26
    have E : Hid (whI 26 x y = w32 (x * y)) := rfl
    go_enter Tryz.func56, Tryz.ntmps56
    go_wp2_with (go_at_call 84; refine (refWrap_any _ _).mono ?_; rintro e w1 ⟨rfl, rfl⟩)
    go_ret
    exact ⟨by rw [unhide E] <;> rfl, rfl⟩
  have d26 : (fn == 26) = false := by simp [e26]
  by_cases e28 : fn = 28
  · subst e28
    have E : Hid (whI 28 x y = w32 (-x)) := rfl
    go_enter Tryz.func56, Tryz.ntmps56
    go_wp2_with (go_at_call 84; refine (refWrap_any _ _).mono ?_; rintro e w1 ⟨rfl, rfl⟩)
    go_ret
    exact ⟨by rw [unhide E] <;> rfl, rfl⟩
  have d28 : (fn == 28) = false := by simp [e28]
  by_cases e0 : y = 0
  · subst e0
    have E : Hid (whI fn x 0 = 0) := by unfold Hid whI quoI; rw [if_neg e24, if_neg e25, if_neg e26, if_neg e28]; rfl
    clear hm hd
    go_enter Tryz.func56, Tryz.ntmps56
    go_wp2
    go_ret
    exact ⟨by rw [unhide E] <;> rfl, rfl⟩
  have d0 : (y == 0) = false := by simp [e0]
  have E : Hid (whI fn x y = w32 (x.tdiv y)) := by unfold Hid whI quoI; rw [if_neg e24, if_neg e25, if_neg e26, if_neg e28, if_neg e0]
  go_enter Tryz.func56, Tryz.ntmps56
  go_wp2_with (go_at_call 84; refine (refWrap_any _ _).mono ?_; rintro e w1 ⟨rfl, rfl⟩)
  go_ret
  exact ⟨by rw [unhide E] <;> rfl, rfl⟩

/-- What an operation of one float does. -/
def sgI (fn x : Int) : Int := if fn = 5 then sqrtI x else if fn = 6 then invI x else if fn = 7 then exp2I x else if fn = 8 then log2I x else if fn = 9 then sinI x else if fn = 10 then cosI x else oneI fn x
set_option maxHeartbeats 1000000 in
theorem refSingle_any (fn x : Int) (w : World) (h1 : 1 ≤ fn) (h10 : fn ≤ 10) (hx : I32 x) : Calls Tryz.prog 60 #[.int .i64 fn, .int .i32 x] w fun e w' => e = .returned (.int .i32 (sgI fn x)) ∧ Ext w w' := by
  have HX := hide hx
  clear hx
  by_cases e5 : fn = 5
  · subst e5
    have E : Hid (sgI 5 x = sqrtI x) := rfl
    clear h1 h10
    go_enter Tryz.func60, Tryz.ntmps60
    go_wp2_with (go_at_call 90; refine (refSqrt_any x _ (unhide HX)).mono ?_; rintro e w1 ⟨rfl, rfl⟩)
    go_ret
    exact ⟨by rw [unhide E] <;> rfl, Ext.refl _⟩
  have d5 : (fn == 5) = false := by simp [e5]
  by_cases e6 : fn = 6
  · subst e6
    have E : Hid (sgI 6 x = invI x) := rfl
    clear h1 h10
    go_enter Tryz.func60, Tryz.ntmps60
    go_wp2_with (go_at_call 91; refine (refInvSqrt_any x _ (unhide HX)).mono ?_; rintro e w1 ⟨rfl, rfl⟩)
    go_ret
    exact ⟨by rw [unhide E] <;> rfl, Ext.refl _⟩
  have d6 : (fn == 6) = false := by simp [e6]
  by_cases e7 : fn = 7
  · subst e7
    have E : Hid (sgI 7 x = exp2I x) := rfl
    clear h1 h10
    go_enter Tryz.func60, Tryz.ntmps60
    go_wp2_with (go_at_call 88; refine (refExp2_any x _ (unhide HX)).mono ?_; rintro e w1 ⟨rfl, hx1⟩)
    go_ret
    exact ⟨by rw [unhide E] <;> rfl, hx1⟩
  have d7 : (fn == 7) = false := by simp [e7]
  by_cases e8 : fn = 8
  · subst e8
    have E : Hid (sgI 8 x = log2I x) := rfl
    clear h1 h10
    go_enter Tryz.func60, Tryz.ntmps60
    go_wp2_with (go_at_call 89; refine (refLog2_any x _ (unhide HX)).mono ?_; rintro e w1 ⟨rfl, rfl⟩)
    go_ret
    exact ⟨by rw [unhide E] <;> rfl, Ext.refl _⟩
  have d8 : (fn == 8) = false := by simp [e8]
  by_cases e9 : fn = 9
  · subst e9
    have E : Hid (sgI 9 x = sinI x) := rfl
    clear h1 h10
    go_enter Tryz.func60, Tryz.ntmps60
    go_wp2_with (go_at_call 92; refine (refSin_any x _ (unhide HX)).mono ?_; rintro e w1 ⟨rfl, rfl⟩)
    go_ret
    exact ⟨by rw [unhide E] <;> rfl, Ext.refl _⟩
  have d9 : (fn == 9) = false := by simp [e9]
  by_cases e10 : fn = 10
  · subst e10
    have E : Hid (sgI 10 x = cosI x) := rfl
    clear h1 h10
    go_enter Tryz.func60, Tryz.ntmps60
    go_wp2_with (go_at_call 93; refine (refCos_any x _ (unhide HX)).mono ?_; rintro e w1 ⟨rfl, rfl⟩)
    go_ret
    exact ⟨by rw [unhide E] <;> rfl, Ext.refl _⟩
  have d10 : (fn == 10) = false := by simp [e10]
  have E : Hid (sgI fn x = oneI fn x) := by unfold Hid sgI; rw [if_neg e5, if_neg e6, if_neg e7, if_neg e8, if_neg e9, if_neg e10]
  have h4 : fn ≤ 4 := by omega
  have h0 : 0 ≤ fn := by omega
  clear e5 e6 e7 e8 e9 e10 h10 h1
  go_enter Tryz.func60, Tryz.ntmps60
  go_wp2_with (go_at_call 94; refine (refOne_any fn x _ h0 h4 (unhide HX)).mono ?_; rintro e w1 ⟨rfl, rfl⟩)
  go_ret
  exact ⟨by rw [unhide E] <;> rfl, Ext.refl _⟩

set_option maxHeartbeats 1000000 in
theorem refAlike_any (n : Nat) (a b : Nat → Int) (w : World) (h1 : 1 ≤ n) (h4 : n ≤ 4) : Calls Tryz.prog 49 #[.int .i64 (n : Int), .agg #[.int .i32 (a 0), .int .i32 (a 1), .int .i32 (a 2), .int .i32 (a 3)], .agg #[.int .i32 (b 0), .int .i32 (b 1), .int .i32 (b 2), .int .i32 (b 3)]] w fun e w' => e = .returned (.bool (sameN n a b)) ∧ Ext w w' := by
  have HS : Hid (sameN n a b = true ↔ ∀ i, i < n → a i = b i) := by
    unfold Hid sameN l4
    rw [decide_eq_true_iff, Int.toNat_natCast]
    rcases (by omega : n = 1 ∨ n = 2 ∨ n = 3 ∨ n = 4) with rfl | rfl | rfl | rfl
    all_goals simp only [List.take_succ_cons, List.take_zero, List.cons.injEq, and_true]
    · refine ⟨fun h i hi => ?_, fun h => h 0 (by omega)⟩
      obtain rfl : i = 0 := by omega
      exact h
    · refine ⟨fun h i hi => ?_, fun h => ⟨h 0 (by omega), h 1 (by omega)⟩⟩
      rcases (by omega : i = 0 ∨ i = 1) with rfl | rfl
      · exact h.1
      · exact h.2
    · refine ⟨fun h i hi => ?_, fun h => ⟨h 0 (by omega), h 1 (by omega), h 2 (by omega)⟩⟩
      rcases (by omega : i = 0 ∨ i = 1 ∨ i = 2) with rfl | rfl | rfl
      · exact h.1
      · exact h.2.1
      · exact h.2.2
    · refine ⟨fun h i hi => ?_, fun h => ⟨h 0 (by omega), h 1 (by omega), h 2 (by omega), h 3 (by omega)⟩⟩
      rcases (by omega : i = 0 ∨ i = 1 ∨ i = 2 ∨ i = 3) with rfl | rfl | rfl | rfl
      · exact h.1
      · exact h.2.1
      · exact h.2.2.1
      · exact h.2.2.2
  obtain ⟨s, hs⟩ : ∃ s, sameN n a b = s := ⟨_, rfl⟩
  rw [hs] at HS ⊢
  clear hs
  have D := hide (show Blk ((w.alloc (.cells #[.int .i32 (a 0), .int .i32 (a 1), .int .i32 (a 2), .int .i32 (a 3)] 28)).alloc (.cells #[.int .i32 (b 0), .int .i32 (b 1), .int .i32 (b 2), .int .i32 (b 3)] 28)) w.heap.size #[.int .i32 (a 0), .int .i32 (a 1), .int .i32 (a 2), .int .i32 (a 3)] 28 ∧ Blk ((w.alloc (.cells #[.int .i32 (a 0), .int .i32 (a 1), .int .i32 (a 2), .int .i32 (a 3)] 28)).alloc (.cells #[.int .i32 (b 0), .int .i32 (b 1), .int .i32 (b 2), .int .i32 (b 3)] 28)) (w.heap.size + 1) #[.int .i32 (b 0), .int .i32 (b 1), .int .i32 (b 2), .int .i32 (b 3)] 28 ∧ Ext w ((w.alloc (.cells #[.int .i32 (a 0), .int .i32 (a 1), .int .i32 (a 2), .int .i32 (a 3)] 28)).alloc (.cells #[.int .i32 (b 0), .int .i32 (b 1), .int .i32 (b 2), .int .i32 (b 3)] 28)) from ⟨(Blk.new w _ _).alloc _, Blk.at (by simp), ((Ext.refl w).alloc _).alloc _⟩)
  go_enter Tryz.func49, Tryz.ntmps49
  go_wp2
  go_loopw [7] (fun i wr => ∃ k : Nat, k ≤ n ∧ i = .int .i64 k ∧ Hid (∀ i, i < k → a i = b i) ∧ Hid (Ext ((w.alloc (.cells #[.int .i32 (a 0), .int .i32 (a 1), .int .i32 (a 2), .int .i32 (a 3)] 28)).alloc (.cells #[.int .i32 (b 0), .int .i32 (b 1), .int .i32 (b 2), .int .i32 (b 3)] 28)) wr)) (fun i _ => n - (intOf i).toNat)
  case atStart => exact ⟨0, by omega, rfl, fun i hi => by omega, Ext.refl _⟩
  case round =>
    obtain ⟨k, hk, rfl, hal, hxr⟩ := hrel
    have D1 := hide (And.intro ((unhide D).1.ext (unhide hxr)) (And.intro ((unhide D).2.1.ext (unhide hxr)) ((unhide D).2.2.trans (unhide hxr))))
    by_cases hlt : k < n
    · have hki : (k : Int) < (n : Int) := by omega
      have hk4 : k < 4 := by omega
      have hk4i : (k : Int) < 4 := by omega
      have ca := (unhide D1).1.vec k hk4
      have cb := (unhide D1).2.1.vec k hk4
      by_cases he : a k = b k
      · have de : (a k == b k) = true := by simp [he]
        have HE := hide he
        clear he
        go_wp2
        go_quiet (fail)
        go_wp2
        go_roundw
        case rel =>
          refine ⟨k + 1, by omega, by go_num, fun i hi => ?_, (unhide hxr).drewN _⟩
          rcases (by omega : i < k ∨ i = k) with h | rfl
          · exact unhide hal i h
          · exact unhide HE
        case measure => simp [intOf]; omega
      · have de : (a k == b k) = false := by simp [he]
        have hsf : s = false := by
          cases s
          · rfl
          · exact absurd ((unhide HS).1 rfl k hlt) he
        subst hsf
        clear he
        go_wp2
        go_quiet (fail)
        go_wp2
        go_ret
        exact ⟨rfl, (unhide D1).2.2.drewN _⟩
    · obtain rfl : k = n := by omega
      have hst : s = true := (unhide HS).2 (unhide hal)
      subst hst
      go_wp2
      refine bodyPost_ret (v := .bool true) (by simp [results, Tryz.results49, go_sem]) rfl ⟨rfl, (unhide D1).2.2⟩
end Go.Proofs.YtglfhmlcmffoaaaGreat
