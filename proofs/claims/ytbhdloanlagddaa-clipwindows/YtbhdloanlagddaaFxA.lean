/-
  The walks of fix's numbers: within, Raw, Of, Int and what is made of them. What the dump lacks is left out.
-/
import Derived.Test.YtbhdloanlagddaaProg
import Derived.Test.YtbhdloanlagddaaLem
import Derived.WalkKit
import Derived.ProofKit
import Derived.OpenShut
namespace Go.Proofs.Ytbhdloanlagddaa
open Go.RowKit

/-- x, lifted to lo, then lowered to hi. -/
def clampI (x lo hi : Int) : Int := min (max x lo) hi
/-- The raw of the number of raw n. -/
def rawI (n : Int) : Int := clampI n (-2147483648) 2147483647
/-- x is an int32. -/
def I32 (x : Int) : Prop := -2147483648 ≤ x ∧ x ≤ 2147483647
/-- x is an int64. -/
def I64 (x : Int) : Prop := -9223372036854775808 ≤ x ∧ x ≤ 9223372036854775807

theorem rawI_i32 (n : Int) : I32 (rawI n) := by unfold rawI clampI I32; omega
theorem rawI_id {n : Int} (h : I32 n) : rawI n = n := by unfold I32 at h; unfold rawI clampI; omega

theorem within64_any (x lo hi : Int) (w : World) :
    Calls Try.prog 61 #[.int .i64 x, .int .i64 lo, .int .i64 hi] w fun e w' => e = .returned (.int .i64 (clampI x lo hi)) ∧ w' = w := by
  go_enter Try.func61, Try.ntmps61
  go_wp2
  all_goals go_ret
  all_goals refine ⟨?_, rfl⟩
  all_goals simp [clampI]
  all_goals (try split at *)
  all_goals omega

theorem within32_any (x lo hi : Int) (w : World) :
    Calls Try.prog 66 #[.int .i32 x, .int .i32 lo, .int .i32 hi] w fun e w' => e = .returned (.int .i32 (clampI x lo hi)) ∧ w' = w := by
  go_enter Try.func66, Try.ntmps66
  go_wp2
  all_goals go_ret
  all_goals refine ⟨?_, rfl⟩
  all_goals simp [clampI]
  all_goals (try split at *)
  all_goals omega

theorem raw_any (n : Int) (w : World) :
    Calls Try.prog 53 #[.int .i64 n] w fun e w' => e = .returned (.int .i32 (rawI n)) ∧ w' = w := by
  have h := rawI_i32 n
  unfold I32 at h
  go_enter Try.func53, Try.ntmps53
  go_wp2_with fail
  refine (within64_any _ _ _ _).mono ?_
  rintro e w1 ⟨rfl, rfl⟩
  rw [show clampI n (-2147483648) 2147483647 = rawI n from rfl]
  go_wp2
  go_ret
  exact ⟨rfl, rfl⟩

theorem magnitude_any (x : Int) (w : World) (h : I32 x) :
    Calls Try.prog 64 #[.int .i32 x] w fun e w' => e = .returned (.int .i64 x.natAbs) ∧ w' = w := by
  go_enter Try.func64, Try.ntmps64
  unfold I32 at h
  go_wp2
  all_goals go_ret
  all_goals refine ⟨?_, rfl⟩
  all_goals simp
  all_goals omega

theorem nearest_any (p q : Int) (w : World) (hp : 0 ≤ p) (hq : 0 < q) (hp2 : p ≤ 4611686018427387904) (hq2 : q ≤ 4611686018427387904) :
    Calls Try.prog 63 #[.int .i64 p, .int .i64 q] w fun e w' => e = .returned (.int .i64 ((p + q / 2) / q)) ∧ w' = w := by
  go_enter Try.func63, Try.ntmps63
  have hq0 : (q == 0) = false := by simp; omega
  go_wp2
  all_goals go_ret
  exact ⟨rfl, rfl⟩

end Go.Proofs.Ytbhdloanlagddaa
