/-
  Two rows of the same tokens are the same, places too: the law's 'all'.
-/
import Derived.Test.YtgoldmohmjjngaaXM
import Derived.Test.YtgoldmohmjjngaaXF
import Derived.Deep.QuietTactic
import Derived.BigQuiet
namespace Go.Proofs.Ytgoldmohmjjngaa
open Go.RowKit
set_option linter.unusedSimpArgs false
set_option linter.unusedVariables false

set_option maxHeartbeats 2000000 in
set_option maxRecDepth 100000 in
theorem all_same (A : List Tok) (ao bo : Option Addr) (ca cb : Nat) (w : World) (hA : TR w (.slice ao A.length ca) A) (hB : TR w (.slice bo A.length cb) A) :
    Calls Try.prog 13 #[.slice ao A.length ca, .slice bo A.length cb] w fun e w' => e = .returned (.bool true) ∧ Ext w w' := by
  have HA := hide hA
  have HB := hide hB
  have hbig : A.length ≤ 9223372036854775807 := by
    obtain ⟨_, _, _, _, h1, h2, _⟩ := hA
    unfold maxLen at h2
    omega
  clear hA hB
  have hl' : (!((A.length : Int) == (A.length : Int))) = false := by simp
  go_enter Try.func13, Try.ntmps13
  go_wp2
  go_loopw [13] (fun iv wr => ∃ k : Nat, k ≤ A.length ∧ iv = .int .i64 k ∧ Ext w wr) (fun iv _ => A.length - (intOf iv).toNat)
  case atStart => exact ⟨0, by omega, rfl, Ext.refl _⟩
  case round =>
    obtain ⟨k, hk, rfl, hx⟩ := hrel
    have X := hide hx
    clear hx
    by_cases hlt : k < A.length
    · obtain ⟨b1, o1, rfl, h1⟩ := ((unhide HA).ext (unhide X)).at k hlt
      obtain ⟨b2, o2, rfl, h2⟩ := ((unhide HB).ext (unhide X)).at k hlt
      have c0 := h1.kind; have c1 := h1.text; have c2 := h1.num; have c3 := h1.place; have c4 := h1.line
      have d0 := h2.kind; have d1 := h2.text; have d2 := h2.num; have d3 := h2.place; have d4 := h2.line
      clear h1 h2
      generalize A[k] = x at *
      have q1 : IntKind.i64.wrap (k : Int) = k := by simp [IntKind.wrap, IntKind.bits, IntKind.signed] <;> omega
      go_wp2
      go_quiet (fail)
      go_wp2
      refine ⟨⟨k + 1, by omega, rfl, (unhide X).drewN _⟩, ?_⟩
      simp [intOf]
      omega
    · go_wp2
      go_ret
      exact ⟨rfl, unhide X⟩
end Go.Proofs.Ytgoldmohmjjngaa
