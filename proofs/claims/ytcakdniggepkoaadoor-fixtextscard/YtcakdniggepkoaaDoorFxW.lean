/-
  The walk of wakes: the layer does what the document's examples say.
-/
import Derived.Test.YtcakdniggepkoaaDoorFxD
import Derived.Test.YtcakdniggepkoaaDoorFxE
namespace Go.Proofs.YtcakdniggepkoaaDoor
open Go.RowKit
set_option linter.unusedSimpArgs false
set_option linter.unusedVariables false

theorem parse_15 : parseI [49, 46, 53] = (98304, 0) := by decide +kernel
theorem text_15 : textL 98304 = [49, 46, 53] := by
  have h1 : (98304 : Int).natAbs = 98304 := rfl
  have h2 : partL 32768 = [46, 53] := by
    unfold partL
    rw [if_neg (by decide)]
    have e : Lib.decDigits (100000 + (32768 * 100000 + 32768) / 65536) = [49, 53, 48, 48, 48, 48] := by
      rw [show 100000 + (32768 * 100000 + 32768) / 65536 = 150000 by decide]
      simp [Lib.decDigits]
    rw [e]
    rfl
  unfold textL
  rw [if_neg (by decide), h1, show 98304 / 65536 = 1 by decide, show 98304 % 65536 = 32768 by decide, h2, Lib.decDigits_one (by decide)]
  rfl

set_option maxHeartbeats 1000000 in
theorem wakes_any (w : World) (ht : Tab w) :
    Calls Tryd.prog 4 #[] w fun e w' => e = .returned (.bool true) ∧ Ext w w' := by
  have T := hide ht
  clear ht
  have p15 : Hid (parseI (⟨#[49, 46, 53]⟩ : ByteArray).data.toList = (98304, 0)) := parse_15
  go_enter Tryd.func4, Tryd.ntmps4
  go_wp2_with fail
  refine (parse_any _ _).mono ?_
  rintro e w1 ⟨rfl, hx⟩
  rw [unhide p15]
  have X := hide hx
  clear hx
  go_wp2_with fail
  refine (of_any _ _).mono ?_
  rintro e w2 ⟨rfl, rfl⟩
  rw [show rawI (65536 * 3) = 196608 by decide]
  go_wp2_with fail
  refine (text_any _ _ (by unfold I32; omega) ((unhide T).ext (unhide X))).mono ?_
  rintro e w3 ⟨rfl, hx3⟩
  have X3 := hide ((unhide X).trans hx3)
  clear hx3 X
  rw [text_15]
  go_wp2_with fail
  refine (mul_any _ _ _ (by unfold I32; omega) (by unfold I32; omega)).mono ?_
  rintro e w4 ⟨rfl, rfl⟩
  rw [show mulI 98304 98304 = 147456 by decide]
  go_wp2_with fail
  refine (div_any _ _ _ (by unfold I32; omega) (by unfold I32; omega)).mono ?_
  rintro e w5 ⟨rfl, rfl⟩
  rw [show divI 65536 131072 = 32768 by decide]
  go_wp2
  go_ret
  exact ⟨by simp, unhide X3⟩
end Go.Proofs.YtcakdniggepkoaaDoor
