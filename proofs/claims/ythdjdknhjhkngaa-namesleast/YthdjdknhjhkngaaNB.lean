/-
  Names: the walks of New, refusal, state, Is, Used, Bound, Bind, Delete.
-/
import Derived.Test.YthdjdknhjhkngaaNA
import Derived.Test.YthdjdknhjhkngaaProg
namespace Go.Proofs.Ythdjdknhjhkngaa
open Go.RowKit

theorem size_names : (Try.prog.info? 55).map (·.size) = some 66 := by kernel_rfl
theorem size_states : (Try.prog.info? 53).map (·.size) = some 65 := by kernel_rfl

theorem zero_names : ∀ w, (zeroValue 55).run Try.prog w = .ok (.agg (nms .u8 nul 0)) w := run_zero (by kernel_rfl)

set_option maxHeartbeats 1000000 in
theorem new_any (w : World) :
    Calls Try.prog 9 #[] w fun e w' => e = .returned (.pointer (some ⟨w.heap.size, 0, none⟩)) ∧ w' = w.alloc (.cells (nms .u8 nul 0) 55) := by
  go_enter Try.func9, Try.ntmps9
  go_wp2_with (refine wpList_buildTo rfl 55 _ rfl (some 1) rfl (nms .u8 nul 0) (by kernel_rfl) ?_)
  go_ret
  exact ⟨rfl, rfl⟩

/-- Why a number can't be bound or deleted. -/
def refI (n : Int) : Int := if n < 0 ∨ 64 < n then 2 else 0
theorem refI_ok {n : Int} (h0 : 0 ≤ n) (h1 : n ≤ 64) : refI n = 0 := by unfold refI; rw [if_neg (by omega)]
theorem refI_bad {n : Int} (h : n < 0 ∨ 64 < n) : refI n = 2 := by unfold refI; rw [if_pos h]

set_option maxHeartbeats 1000000 in
theorem refusal_any (B : Nat) (n : Int) (w : World) :
    Calls Try.prog 29 #[.pointer (some ⟨B, 0, none⟩), .int .i64 n] w fun e w' => e = .returned (.int .i64 (refI n)) ∧ w' = w := by
  go_enter Try.func29, Try.ntmps29
  by_cases h0 : n < 0
  · have H := hide (refI_bad (.inl h0))
    go_wp2
    go_ret
    exact ⟨by rw [unhide H]; rfl, rfl⟩
  · by_cases h1 : 64 < n
    · have H := hide (refI_bad (.inr h1))
      go_wp2
      go_ret
      exact ⟨by rw [unhide H]; rfl, rfl⟩
    · have H := hide (refI_ok (n := n) (by omega) (by omega))
      go_wp2
      go_ret
      exact ⟨by rw [unhide H]; rfl, rfl⟩

theorem refusal_nil (n : Int) (w : World) :
    Calls Try.prog 29 #[.pointer none, .int .i64 n] w fun e w' => e = .returned (.int .i64 1) ∧ w' = w := by
  go_enter Try.func29, Try.ntmps29
  go_wp2
  go_ret
  exact ⟨rfl, rfl⟩

/-- How a number stands. -/
def stI (s : Nat → Int) (n : Int) : Int := if 0 ≤ n ∧ n ≤ 64 then s n.toNat else 0
theorem stI_nat (s : Nat → Int) {k : Nat} (h : k ≤ 64) : stI s (k : Int) = s k := by unfold stI; rw [if_pos (by omega)]; simp
theorem stI_bad (s : Nat → Int) {n : Int} (h : n < 0 ∨ 64 < n) : stI s n = 0 := by unfold stI; rw [if_neg (by omega)]

set_option maxHeartbeats 1000000 in
theorem state_any (B : Nat) (s : Nat → Int) (b n : Int) (w : World) (hb : Blk w B (nms .u8 s b) 55) :
    Calls Try.prog 30 #[.pointer (some ⟨B, 0, none⟩), .int .i64 n] w fun e w' => e = .returned (.int .u8 (stI s n)) ∧ w' = w := by
  go_enter Try.func30, Try.ntmps30
  go_wp2_with fail
  refine (refusal_any B n _).mono ?_
  rintro e w1 ⟨rfl, rfl⟩
  by_cases h : n < 0 ∨ 64 < n
  · have H := hide (stI_bad s h)
    have hr : (refI n != 0) = true := by rw [refI_bad h]; rfl
    have HB := hide hb
    clear hb h
    go_wp2
    go_ret
    exact ⟨by rw [unhide H]; rfl, rfl⟩
  · obtain ⟨k, rfl⟩ := Int.eq_ofNat_of_zero_le (show 0 ≤ n by omega)
    have hk : k < 65 := by omega
    have H := hide (stI_nat s (k := k) (by omega))
    have hr : (refI k != 0) = false := by rw [refI_ok (by omega) (by omega)]; rfl
    have hc := hb.cell (nms_get .u8 s b hk)
    have hk2 : (k : Int) < 65 := by omega
    have HB := hide hb
    clear hb h
    go_wp2
    go_ret
    exact ⟨by rw [unhide H]; rfl, rfl⟩

theorem state_nil (n : Int) (w : World) :
    Calls Try.prog 30 #[.pointer none, .int .i64 n] w fun e w' => e = .returned (.int .u8 0) ∧ w' = w := by
  go_enter Try.func30, Try.ntmps30
  go_wp2_with fail
  refine (refusal_nil n _).mono ?_
  rintro e w1 ⟨rfl, rfl⟩
  go_wp2
  go_ret
  exact ⟨rfl, rfl⟩

theorem is_any (B : Nat) (s : Nat → Int) (b n : Int) (w : World) (hb : Blk w B (nms .u8 s b) 55) :
    Calls Try.prog 19 #[.pointer (some ⟨B, 0, none⟩), .int .i64 n] w fun e w' => e = .returned (.bool (stI s n == 2)) ∧ w' = w := by
  go_enter Try.func19, Try.ntmps19
  go_wp2_with fail
  refine (state_any B s b n _ hb).mono ?_
  rintro e w1 ⟨rfl, rfl⟩
  go_wp2
  go_ret
  exact ⟨rfl, rfl⟩
theorem is_nil (n : Int) (w : World) :
    Calls Try.prog 19 #[.pointer none, .int .i64 n] w fun e w' => e = .returned (.bool false) ∧ w' = w := by
  go_enter Try.func19, Try.ntmps19
  go_wp2_with fail
  refine (state_nil n _).mono ?_
  rintro e w1 ⟨rfl, rfl⟩
  go_wp2
  go_ret
  exact ⟨rfl, rfl⟩
theorem used_any (B : Nat) (s : Nat → Int) (b n : Int) (w : World) (hb : Blk w B (nms .u8 s b) 55) :
    Calls Try.prog 20 #[.pointer (some ⟨B, 0, none⟩), .int .i64 n] w fun e w' => e = .returned (.bool (stI s n != 0)) ∧ w' = w := by
  go_enter Try.func20, Try.ntmps20
  go_wp2_with fail
  refine (state_any B s b n _ hb).mono ?_
  rintro e w1 ⟨rfl, rfl⟩
  go_wp2
  go_ret
  exact ⟨rfl, rfl⟩
theorem used_nil (n : Int) (w : World) :
    Calls Try.prog 20 #[.pointer none, .int .i64 n] w fun e w' => e = .returned (.bool false) ∧ w' = w := by
  go_enter Try.func20, Try.ntmps20
  go_wp2_with fail
  refine (state_nil n _).mono ?_
  rintro e w1 ⟨rfl, rfl⟩
  go_wp2
  go_ret
  exact ⟨rfl, rfl⟩
theorem bound_any (B : Nat) (s : Nat → Int) (b : Int) (w : World) (hb : Blk w B (nms .u8 s b) 55) :
    Calls Try.prog 18 #[.pointer (some ⟨B, 0, none⟩)] w fun e w' => e = .returned (.int .i64 b) ∧ w' = w := by
  have hc := hb.cell (nms_bound .u8 s b)
  have HB := hide hb
  clear hb
  go_enter Try.func18, Try.ntmps18
  go_wp2
  go_ret
  exact ⟨rfl, rfl⟩
theorem bound_nil (w : World) :
    Calls Try.prog 18 #[.pointer none] w fun e w' => e = .returned (.int .i64 0) ∧ w' = w := by
  go_enter Try.func18, Try.ntmps18
  go_wp2
  go_ret
  exact ⟨rfl, rfl⟩
end Go.Proofs.Ythdjdknhjhkngaa
