/-
  Maths: that the layer does anything (wakes).
-/
import Derived.Test.YtlggecbbliihiabML
import Derived.OpenShut
import Derived.Test.YtlggecbbliihiabMS
import Derived.Test.YtlggecbbliihiabMN
namespace Go.Proofs.Ytlggecbbliihiab
open Go.RowKit
set_option linter.unusedVariables false
set_option linter.unusedSimpArgs false

theorem bounds_u64 {n : Int} (h : (Lit.int .u64 n).wf = true) : 0 ≤ n ∧ n ≤ 18446744073709551615 := by
  simp [Lit.wf, IntKind.min, IntKind.max, IntKind.signed, IntKind.bits] at h
  omega

theorem at_root : rootI 17 = 4 := rootI_eq (by unfold IsRoot; decide)
theorem at_sqrt : sqrtI 131072 = 92681 := by
  unfold sqrtI
  rw [if_neg (by decide), rootI_eq (r := 92681) (by unfold IsRoot; decide)]
  exact rawI_id (by unfold I32; omega)
theorem at_exp2 : exp2I (-65536) = 32768 := by decide
theorem at_log2 : log2I 131072 = 65536 := by decide
theorem at_cos : cosI 0 = 65536 := by decide
theorem at_length : lengthI (v4 196608 262144 0 0) 2 = 327680 := by
  unfold lengthI
  rw [show lsI (v4 196608 262144 0 0) (cntI 2).toNat = 107374182400 by decide, rootI_eq (r := 327680) (by unfold IsRoot; decide)]
  exact rawI_id (by unfold I32; omega)

set_option maxHeartbeats 1000000 in
theorem wakes_any (w : World) :
    Calls Try.prog 6 #[] w fun e w' => e = .returned (.bool true) ∧ Ext w w' := by
  go_enter Try.func6, Try.ntmps6
  go_wp2_with fail
  refine (root_any _ _ (by omega) (by omega)).mono ?_
  rintro e w1 ⟨rfl, rfl⟩
  rw [at_root]
  go_wp2_with fail
  refine (sqrt_any _ _ (by unfold I32; omega)).mono ?_
  rintro e w1 ⟨rfl, rfl⟩
  rw [at_sqrt]
  go_wp2_with fail
  refine (exp2_any _ _ (by unfold I32; omega)).mono ?_
  rintro e w2 ⟨rfl, hx⟩
  rw [at_exp2]
  have X := hide hx
  clear hx
  go_wp2_with fail
  refine (log2_any _ _ (by unfold I32; omega)).mono ?_
  rintro e w3 ⟨rfl, m, rfl⟩
  rw [at_log2]
  go_wp2_with fail
  refine (cos_any _ _ (by unfold I32; omega)).mono ?_
  rintro e w3 ⟨rfl, rfl⟩
  rw [at_cos]
  go_wp2_with fail
  refine (length_any (v4 196608 262144 0 0) 2 _ (v4_i32 (by unfold I32; omega) (by unfold I32; omega) (by unfold I32; omega) (by unfold I32; omega))).mono ?_
  rintro e w4 ⟨rfl, hx⟩
  rw [at_length]
  have Y := hide (((unhide X).drewN m).trans hx)
  clear hx
  go_wp2
  go_ret
  exact ⟨rfl, unhide Y⟩

end Go.Proofs.Ytlggecbbliihiab
