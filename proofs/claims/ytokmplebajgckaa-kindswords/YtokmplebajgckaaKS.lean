/-
  The document's words of types, and the types of words.
-/
import Derived.Test.YtokmplebajgckaaKR
namespace Go.Proofs.Ytokmplebajgckaa
open Go.RowKit
set_option linter.unusedVariables false
set_option linter.unusedSimpArgs false

set_option maxHeartbeats 4000000 in
theorem refWord_in (p : Ty × Byts8) (hp : p ∈ tys) (w : World) : Calls Try.prog 14 #[.agg #[.int .i64 (p.1).1, .int .i64 (p.1).2]] w fun e w' => e = .returned (.string ⟨p.2.toArray⟩) ∧ Ext w w' := by
  unfold tys at hp
  simp only [List.mem_cons, List.not_mem_nil, or_false] at hp
  rcases hp with rfl | rfl | rfl | rfl | rfl | rfl | rfl | rfl | rfl | rfl | rfl | rfl | rfl | rfl <;>
  · have X0 := hide (fun c => (Ext.refl w).alloc (.cells c 23))
    have X1 := hide (fun c (d : Array Value) => ((Ext.refl w).alloc (.cells c 23)).alloc (.cells d 9))
    have X2 := hide (fun c (d : Array Value) => (((Ext.refl w).alloc (.cells c 23)).alloc (.cells d 9)).drew)
    go_enter Try.func14, Try.ntmps14
    go_wp2
    try go_region
    all_goals
      go_wp2
      go_ret
      first
        | exact ⟨rfl, unhide X0 _⟩
        | exact ⟨rfl, unhide X1 _ _⟩
        | exact ⟨rfl, unhide X2 _ _⟩
end Go.Proofs.Ytokmplebajgckaa
