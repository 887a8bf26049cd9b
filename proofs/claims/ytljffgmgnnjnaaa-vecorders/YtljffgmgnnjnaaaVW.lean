/-
  Vectors: that the layer does anything (wakes).
-/
import Derived.Test.YtljffgmgnnjnaaaVE
namespace Go.Proofs.Ytljffgmgnnjnaaa
open Go.RowKit
set_option linter.unusedVariables false

set_option maxHeartbeats 1000000 in
theorem wakes_any (w : World) :
    Calls Try.prog 4 #[] w fun e w' => e = .returned (.bool true) ∧ Ext w w' := by
  have k0 : cut 2 (fun i => twoI 0 (v4 1 2 0 0 i) (v4 3 4 0 0 i)) 0 = 4 := by decide
  have k1 : cut 2 (fun i => twoI 0 (v4 1 2 0 0 i) (v4 3 4 0 0 i)) 1 = 6 := by decide
  have k2 : cut 2 (fun i => twoI 0 (v4 1 2 0 0 i) (v4 3 4 0 0 i)) 2 = 0 := by decide
  have k3 : cut 2 (fun i => twoI 0 (v4 1 2 0 0 i) (v4 3 4 0 0 i)) 3 = 0 := by decide
  have k4 : sumI (cut 2 (fun i => mulI (v4 65536 65536 0 0 i) (v4 65536 65536 0 0 i))) 4 = 131072 := by decide
  have K := hide (And.intro k0 (And.intro k1 (And.intro k2 (And.intro k3 k4))))
  clear k0 k1 k2 k3 k4
  have hE := eqV
  go_enter Try.func4, Try.ntmps4
  go_wp2_with fail
  refine (two_any 0 2 (v4 1 2 0 0) (v4 3 4 0 0) _ (by omega) (by omega) (by omega) (by omega) (v4_i32 (by unfold I32; omega) (by unfold I32; omega) (by unfold I32; omega) (by unfold I32; omega)) (v4_i32 (by unfold I32; omega) (by unfold I32; omega) (by unfold I32; omega) (by unfold I32; omega))).mono ?_
  rintro e w1 ⟨rfl, hx⟩
  rw [(unhide K).1, (unhide K).2.1, (unhide K).2.2.1, (unhide K).2.2.2.1]
  have X := hide (hx.alloc (.cells #[.int .i32 4, .int .i32 6, .int .i32 0, .int .i32 0] 24))
  have B : Hid (Blk (w1.alloc (.cells #[.int .i32 4, .int .i32 6, .int .i32 0, .int .i32 0] 24)) w1.heap.size #[.int .i32 4, .int .i32 6, .int .i32 0, .int .i32 0] 24) := Blk.at rfl
  clear hx
  go_wp2_with fail
  refine (dot_any 2 (v4 65536 65536 0 0) (v4 65536 65536 0 0) _ (by omega) (by omega) (v4_i32 (by unfold I32; omega) (by unfold I32; omega) (by unfold I32; omega) (by unfold I32; omega)) (v4_i32 (by unfold I32; omega) (by unfold I32; omega) (by unfold I32; omega) (by unfold I32; omega))).mono ?_
  rintro e w2 ⟨rfl, hx2⟩
  rw [(unhide K).2.2.2.2]
  have c0 := ((unhide B).ext hx2).cell (i := 0) rfl
  have c1 := ((unhide B).ext hx2).cell (i := 1) rfl
  have c2 := ((unhide B).ext hx2).cell (i := 2) rfl
  have c3 := ((unhide B).ext hx2).cell (i := 3) rfl
  have X2 := hide ((unhide X).trans hx2)
  clear hx2 X B
  go_wp2
  go_ret
  exact ⟨rfl, unhide X2⟩

end Go.Proofs.Ytljffgmgnnjnaaa
