/-
  The walks of maths' logarithms and powers of whatever number. What the dump lacks is left out.
-/
import Derived.Test.YtlggecbbliihiabMP
import Derived.BigQuiet
namespace Go.Proofs.Ytlggecbbliihiab
open Go.RowKit
set_option linter.unusedVariables false
set_option linter.unusedSimpArgs false

set_option maxHeartbeats 1000000 in
theorem log2_any (x : Int) (w : World) (h : I32 x) :
    Calls Try.prog 8 #[.int .i32 x] w fun e w' => e = .returned (.int .i32 (log2I x)) ∧ ∃ m, w' = w.drewN m := by
  go_enter Try.func8, Try.ntmps8
  unfold I32 at h
  by_cases c : x ≤ 0
  · have hE := hide (show log2I x = -2147483648 by simp [log2I, c])
    go_wp2
    go_ret
    exact ⟨by rw [unhide hE]; rfl, 0, rfl⟩
  · have hl := lenI_is (x := x) (by omega) (by omega)
    have hm := len_mul hl
    have hd := lgD_bounds (x * 2 ^ (30 - lenI x).toNat) 16
    rw [show (2 : Int) ^ 16 = 65536 from rfl] at hd
    have hE := hide (show log2I x = 65536 * (lenI x - 16) + lgD (x * 2 ^ (30 - lenI x).toNat) 16 by simp [log2I, c])
    have hl0 := hl.1
    have hl1 := hl.2.1
    clear hl
    have hB : Hid (((Lib.bitLen x.toNat : Nat) : Int) = lenI x + 1) := by show _ = _; unfold lenI; omega
    go_wp2_with fail
    refine (Try.bits_Len32 _ _ (by omega) (by omega)).mono ?_
    rintro e w1 ⟨rfl, rfl⟩
    rw [unhide hB]
    have hs : (30 - lenI x).toNat = 30 - (lenI x).toNat := by omega
    generalize hL : lenI x = L at *
    have HL := hide hL
    clear hL
    have HO : Hid (rawI (65536 * (L - 16)) = 65536 * (L - 16)) := rawI_id (by unfold I32; omega)
    have HA : Hid (addI (rawI (65536 * (L - 16))) (lgD (x * 2 ^ (30 - L).toNat) 16) = log2I x) := by
      show _ = _
      rw [unhide HO, unhide hE]
      unfold addI
      exact rawI_id (by unfold I32; omega)
    have HD := hide hd
    have HM := hide hm
    clear hd hm hs
    go_wp2
    have hm := unhide HM
    go_quiet (first | (go_at_call 20; refine Calls.quiet_of_same (of_any _ _)) | (go_at_call 21; refine Calls.quiet_of_same (partLog_any _ _ (unhide HM).1 (unhide HM).2)) | (go_at_call 19; refine Calls.quiet_of_same (add_any _ _ _ (rawI_i32 _) (by have := unhide HD; unfold I32; omega))))
    rw [unhide HA]
    go_wp2
    go_ret
    exact ⟨rfl, _, rfl⟩

end Go.Proofs.Ytlggecbbliihiab
