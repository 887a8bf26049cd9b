/-
  Colours: near.
-/
import Derived.Test.YtgblnipfeikomaaSW
import Derived.Test.YtgblnipfeikomaaSH
import Derived.Test.YtgblnipfeikomaaFr
namespace Go.Proofs.Ytgblnipfeikomaa
open Go.RowKit
set_option linter.unusedVariables false
set_option linter.unusedSimpArgs false

def Near (i : Int) : Prop := -1152921504606846976 < i ∧ i < 1152921504606846976
theorem near_yes {i : Int} (h : Near i) (w : World) : Calls Try.prog 11 #[.int .i64 i] w fun e w' => e = .returned (.bool true) ∧ w' = w := by
  obtain ⟨h1, h2⟩ := h
  go_enter Try.func11, Try.ntmps11
  go_wp2
  go_ret
  exact ⟨rfl, rfl⟩
theorem near_no {i : Int} (h : ¬ Near i) (w : World) : Calls Try.prog 11 #[.int .i64 i] w fun e w' => e = .returned (.bool false) ∧ w' = w := by
  by_cases h1 : -1152921504606846976 < i
  · have h2 : ¬ i < 1152921504606846976 := fun h2 => h ⟨h1, h2⟩
    clear h
    go_enter Try.func11, Try.ntmps11
    go_wp2
    go_ret
    exact ⟨rfl, rfl⟩
  · clear h
    go_enter Try.func11, Try.ntmps11
    go_wp2
    go_ret
    exact ⟨rfl, rfl⟩
end Go.Proofs.Ytgblnipfeikomaa
