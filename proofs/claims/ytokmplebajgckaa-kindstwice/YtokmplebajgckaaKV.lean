/-
  The layer is awake.
-/
import Derived.Test.YtokmplebajgckaaKQ
namespace Go.Proofs.Ytokmplebajgckaa
open Go.RowKit
set_option linter.unusedVariables false
set_option linter.unusedSimpArgs false

theorem wk_of : ofP [105, 118, 101, 99, 51] = (⟨2, 3⟩, 0) := by decide
theorem wk_call : callT [109, 105, 120] [⟨1, 2⟩, ⟨1, 2⟩, ⟨1, 1⟩] = (⟨1, 2⟩, 17, 0) := by decide
set_option maxHeartbeats 4000000 in
theorem wakes13_any (w : World) : Calls Try.prog 9 #[] w fun e w' => e = .returned (.bool true) ∧ Ext w w' := by
  have HOF := hide (of_any [105, 118, 101, 99, 51])
  rw [wk_of] at HOF
  have HC : Hid (∀ w v, TyR w v [⟨1, 2⟩, ⟨1, 2⟩, ⟨1, 1⟩] → Calls Try.prog 25 #[.string ⟨([109, 105, 120] : Byts8).toArray⟩, v] w fun e w' => e = .returned (.tuple #[.agg #[.int .i64 ((⟨1, 2⟩ : Ty)).1, .int .i64 ((⟨1, 2⟩ : Ty)).2], .int .i64 17, .int .i64 0]) ∧ Ext w w') := by
    intro w v h
    have := callT_any [109, 105, 120] [⟨1, 2⟩, ⟨1, 2⟩, ⟨1, 1⟩] v w (by decide) h
    rw [wk_call] at this
    exact this
  dsimp only at HOF HC
  go_enter Try.func9, Try.ntmps9
  go_wp2_with fail
  refine (unhide HOF _).mono ?_
  rintro e w1 ⟨rfl, hx1⟩
  have X1 := hide (hx1.alloc (.cells #[.int .i64 2, .int .i64 3] 23))
  have B1 := hide (Blk.new w1 #[.int .i64 2, .int .i64 3] 23)
  clear hx1
  go_upto_region 2 with fail
  generalize w1.alloc (.cells #[.int .i64 2, .int .i64 3] 23) = w2 at X1 B1 ⊢
  generalize w1.heap.size = r at *
  have HT := hide (TyR.three (w := w2) (b := w2.heap.size) rfl ⟨1, 2⟩ ⟨1, 2⟩ ⟨1, 1⟩ 23)
  dsimp only at HT
  have X2 := hide ((unhide X1).alloc (.cells #[.int .i64 1, .int .i64 2, .int .i64 1, .int .i64 2, .int .i64 1, .int .i64 1] 23))
  have B2 := hide ((unhide B1).alloc (.cells #[.int .i64 1, .int .i64 2, .int .i64 1, .int .i64 2, .int .i64 1, .int .i64 1] 23))
  go_wp2_with fail
  refine (unhide HC _ _ (unhide HT)).mono ?_
  rintro e w3 ⟨rfl, hx3⟩
  have X3 := hide (((unhide X2).trans hx3).alloc (.cells #[.int .i64 1, .int .i64 2] 23))
  have B3 := hide (((unhide B2).ext hx3).alloc (.cells #[.int .i64 1, .int .i64 2] 23))
  have D3 := hide (Blk.new w3 #[.int .i64 1, .int .i64 2] 23)
  clear hx3 HT X2 B2 B1 X1
  go_upto_region 3 with fail
  generalize w3.alloc (.cells #[.int .i64 1, .int .i64 2] 23) = w4 at X3 B3 D3 ⊢
  generalize w3.heap.size = r2 at *
  obtain ⟨a0, a1⟩ := (unhide B3).two
  obtain ⟨b0, b1⟩ := (unhide D3).two
  go_wp2
  go_ret
  exact ⟨rfl, unhide X3⟩
end Go.Proofs.Ytokmplebajgckaa
