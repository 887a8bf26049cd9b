/-
  Proved: OctetNone answers true for every number n, and turns nothing that was there: of a Reader that is not there every call answers 0 or nothing, and Err answers ErrNil. No condition.
-/
import Derived.Test.YtbjjoidobnfghaaFr
import Derived.Test.YtbjjoidobnfghaaW6
namespace Go.Proofs.Ytbjjoidobnfghaa
open Go.ChangeShapes Go.WideShapes Go.ChangeAt Go.RowKit
open Go.ChangeMaps (open_string shut_string)


theorem none_owes (H : Type) (enc : TypeId × Value → H) (W : World) (base : Nat) (args : Array Value) (ds : List (DataW H)) (p : List MemPlace) : Owes H enc Try.prog 5 Try.f5 Rows.octetNoneSpec W base args ds p := by
  intro hval hA hsz
  rw [Try.params5] at hA hval hsz
  obtain ⟨v0, vs0, d0, ds0, p0, q0, hargs, rfl, rfl, h0, r0⟩ := trodAll_cons hA
  obtain ⟨rfl, rfl, rfl⟩ := trodAll_nil r0
  obtain rfl : args = #[v0] := by cases args; simp_all
  obtain ⟨a0, rfl, rfl, rfl, w0⟩ := open_int Try.underlying3 (hval 0 3 v0 rfl rfl) h0
  exact ⟨⟨rfl, rfl, rfl⟩, none_walk a0 W⟩

set_option maxRecDepth 100000 in
theorem none_lifted (os : Os) (started : os.Started) (H : Type) (enc : TypeId × Value → H) :
    ReturnsInHanded {} Try.checked os 5 .any (Rows.octetNoneSpec.pre6 enc Try.prog Try.f5 [] false) (Rows.octetNoneSpec.post enc Try.prog Try.f5 false true false false) :=
  lift_law (C := Try.checked) own laidOut started (by kernel_rfl) Try.func5 (T := 4) rfl Try.underlying4 rfl (by kernel_rfl)
    (ChangeSpec.witness6 (enc := enc) (C := Try.checked) false ⟨#[], #[.int .i64 0], []⟩ 8 (by kernel_rfl) (by kernel_rfl) (by kernel_rfl) (by kernel_rfl)) (none_owes H enc)

theorem octetNone_holds : Rows.OctetNoneSaid :=
  OpenClaim.holds_of_wide 5 Try.f5 rfl rfl rfl rfl rfl rfl rfl ⟨rfl, rfl, rfl, rfl, rfl⟩ rfl rfl rfl rfl rfl (by kernel_rfl) Try.func5 (by kernel_rfl)
    (of_decide_eq_true (by kernel_rfl)) (by unfold Func.isWrapper; rw [if_neg (of_decide_eq_false (by kernel_rfl))]; exact ⟨rfl, rfl⟩)
    (fun os started H enc _ => none_lifted os started H enc)
#print axioms octetNone_holds
end Go.Proofs.Ytbjjoidobnfghaa
