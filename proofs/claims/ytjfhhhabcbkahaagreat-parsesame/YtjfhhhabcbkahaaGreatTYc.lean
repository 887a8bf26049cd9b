/-
  All rules.
-/
import Derived.Test.YtjfhhhabcbkahaaGreatTR0
import Derived.Test.YtjfhhhabcbkahaaGreatTR1
import Derived.Test.YtjfhhhabcbkahaaGreatTR2
import Derived.Test.YtjfhhhabcbkahaaGreatTR3
import Derived.Test.YtjfhhhabcbkahaaGreatTR4
import Derived.Test.YtjfhhhabcbkahaaGreatTR5
import Derived.Test.YtjfhhhabcbkahaaGreatTT
import Derived.Test.YtjfhhhabcbkahaaGreatTU
import Derived.Test.YtjfhhhabcbkahaaGreatTV
import Derived.Test.YtjfhhhabcbkahaaGreatTX
namespace Go.Proofs.YtjfhhhabcbkahaaGreat
open Go.RowKit
set_option linter.unusedVariables false
set_option linter.unusedSimpArgs false

section
variable {pb : Nat} {L : List Tok} {tv lv : Value}
/-- All rules, as long as fuel lasts. -/
theorem go_ctr (hk : TokOk L) (hL : L.length ≤ 100000000) : ∀ f, Ctr pb L tv lv (goP L f) f
  | 0 => fun r i w hr hm hi hP => by
    exfalso
    unfold rankR at hm
    split at hm <;> omega
  | f + 1 => fun r i w hr hm hi hP => by
    have ih := go_ctr hk hL f
    have hv : AdvA L (goP L f) := fun r k h => adv_go hk f r k h
    match r, hr, hm with
    | 0, _, hm => exact expr_step ih hv hm hP hi hL
    | 1, _, hm => exact cond_step ih hv hm hP hi hL
    | 2, _, hm => exact or_step ih hv hm hP hi hL
    | 3, _, hm => exact and_step ih hv hm hP hi hL
    | 4, _, hm => exact same_step ih hv hm hP hi hL
    | 5, _, hm => exact less_step ih hv hm hP hi hL
    | 6, _, hm => exact sum_step ih hv hm hP hi hL
    | 7, _, hm => exact product_step ih hv hm hP hi hL
    | 8, _, hm => exact unary_step ih hv hm hP hi hL
    | 9, _, hm => exact post_step ih hv hm hP hi hL
    | 10, _, hm => exact first_step ih hv hm hP hi hL
    | 11, _, hm => exact call_step ih hv hm hP hi hL
    | 12, _, hm => exact stmt_step ih hv hm hP hi hL
    | 13, _, hm => exact block_step ih hv hm hP hi hL
    | 14, _, hm => exact branch_step ih hv hm hP hi hL
    | 15, _, hm => exact loop_step ih hv hm hk hP hi hL
    | 16, _, hm => exact leave_step ih hv hm hP hi hL
    | n + 17, hr, _ => omega
end

end Go.Proofs.YtjfhhhabcbkahaaGreat
