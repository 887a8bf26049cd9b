/-
  Primitives: the walk of Prims where it refuses.
-/
import Derived.Test.YtmigakbccmkjoaaFEm
import Derived.BigQuiet
namespace Go.Proofs.Ytmigakbccmkjoaa
open Go.RowKit Go.Shelf
set_option linter.unusedVariables false
set_option linter.unusedSimpArgs false

/-- Prims refused: there is no such mode, or the list is too long. -/
theorem prims_no (v : Value) (l : List Int) (m : Int) (w : World) (hr : Row .i64 w v l) (hm : modB m = false) (hn : l.length ≤ 257) :
    Calls Try.prog 21 #[.int .i64 m, v] w fun e w' => e = .returned (.tuple #[.slice none 0 0, .int .i64 2]) ∧ Ext w w' := by
  obtain ⟨lo, lc, rfl, hao, hlc, hcm⟩ := hr.shape
  have HX := hide ((Ext.refl w).alloc (.cells #[.slice lo l.length lc] 51))
  have HSH := hide (shapeOf_no m l.length (w.alloc (.cells #[.slice lo l.length lc] 51)) hm hn)
  unfold maxLen at hcm
  clear hr hao
  go_enter Try.func21, Try.ntmps21
  go_wp2_with (go_at_call 29; refine (unhide HSH).mono ?_; rintro e w1 ⟨rfl, hx1⟩; have HX1 := hide ((unhide HX).trans hx1); clear hx1)
  refine bodyPost_ret (v := .tuple #[.slice none 0 0, .int .i64 2]) (by simp [results, Try.results21, go_sem]) rfl ⟨rfl, (unhide HX1).alloc _⟩
set_option maxHeartbeats 1000000 in
theorem prims_long (v : Value) (l : List Int) (m : Int) (w : World) (hr : Row .i64 w v l) (hm : modB m = true) (hn : l.length = 257) :
    Calls Try.prog 21 #[.int .i64 m, v] w fun e w' => e = .returned (.tuple #[.slice none 0 0, .int .i64 3]) ∧ Ext w w' := by
  obtain ⟨lo, lc, rfl, hao, hlc, hcm⟩ := hr.shape
  have HX := hide ((Ext.refl w).alloc (.cells #[.slice lo l.length lc] 51))
  have HL := hide (Blk.new w #[.slice lo l.length lc] 51)
  have HSH := hide (shapeOf_any m l.length (w.alloc (.cells #[.slice lo l.length lc] 51)) hm (by omega))
  have hn2 : (256 : Int) < (l.length : Int) := by omega
  have hn3 : (l.length : Int) ≤ 1000 := by omega
  clear hn
  unfold maxLen at hcm
  clear hr hao
  go_enter Try.func21, Try.ntmps21
  go_wp2_with fail
  refine (unhide HSH).mono ?_
  rintro e w1 ⟨fv, rfl, hfv, hpl, hx1⟩
  have HX1 := hide ((unhide HX).trans hx1)
  have HL1 := hide ((unhide HL).ext hx1)
  have c0 : ∀ o, (w1.alloc o).cell? ⟨w.heap.size, 0, none⟩ = some (.slice lo l.length lc) := fun o => ((unhide HL1).alloc o).cell rfl
  clear hpl hx1 HSH HL HX
  rcases hfv with rfl | ⟨g, lb, rfl⟩
  all_goals
    go_wp2
    refine bodyPost_ret (v := .tuple #[.slice none 0 0, .int .i64 3]) (by simp [results, Try.results21, go_sem]) rfl ⟨rfl, (unhide HX1).alloc _⟩
end Go.Proofs.Ytmigakbccmkjoaa
