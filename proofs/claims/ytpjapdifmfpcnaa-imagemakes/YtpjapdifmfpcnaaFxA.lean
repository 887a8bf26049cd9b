/-
  The walks of fix's numbers: within, Raw, Of, Int and what is made of them. What the dump lacks is left out.
-/
import Derived.Test.YtpjapdifmfpcnaaProg
import Derived.Test.YtpjapdifmfpcnaaLem
import Derived.WalkKit
import Derived.ProofKit
import Derived.OpenShut
namespace Go.Proofs.Ytpjapdifmfpcnaa
open Go.RowKit

/-- x, lifted to lo, then lowered to hi. -/
def clampI (x lo hi : Int) : Int := min (max x lo) hi
/-- The raw of the number of raw n. -/
def rawI (n : Int) : Int := clampI n (-2147483648) 2147483647
/-- x is an int32. -/
def I32 (x : Int) : Prop := -2147483648 ≤ x ∧ x ≤ 2147483647
/-- x is an int64. -/
def I64 (x : Int) : Prop := -9223372036854775808 ≤ x ∧ x ≤ 9223372036854775807

theorem rawI_i32 (n : Int) : I32 (rawI n) := by unfold rawI clampI I32; omega
theorem rawI_id {n : Int} (h : I32 n) : rawI n = n := by unfold I32 at h; unfold rawI clampI; omega

end Go.Proofs.Ytpjapdifmfpcnaa
