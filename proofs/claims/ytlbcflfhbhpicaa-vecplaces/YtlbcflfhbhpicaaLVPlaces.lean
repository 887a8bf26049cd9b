/-
  Proved: VecPlaces answers true for every pair of vectors and every slice of places: Pick and Put answer as the document says, or ErrArg and nothing but 0. No condition but the form's own bound on what is read.
-/
import Derived.Test.YtlbcflfhbhpicaaLVPn
import Derived.Test.YtlbcflfhbhpicaaLVPd
import Derived.Test.YtlbcflfhbhpicaaLVPg
namespace Go.Proofs.Ytlbcflfhbhpicaa
open Go.ChangeShapes Go.WideShapes Go.ChangeAt Go.RowKit

theorem places_owes (H : Type) (enc : TypeId × Value → H) (W : World) (base : Nat) (args : Array Value) (ds : List (DataW H)) (p : List MemPlace) : Owes H enc Try.prog 7 Try.f7 Rows.vecPlacesSpec W base args ds p := by
  intro hval hA hsz
  rw [Try.params7] at hA hval hsz
  obtain ⟨v0, vs0, d0, ds0, p0, q0, hargs, rfl, rfl, h0, r0⟩ := trodAll_cons hA
  obtain ⟨v1, vs1, d1, ds1, p1, q1, rfl, rfl, rfl, h1, r1⟩ := trodAll_cons r0
  obtain ⟨rfl, rfl, rfl⟩ := trodAll_nil r1
  obtain rfl : args = #[v0, v1] := by cases args; simp_all
  obtain ⟨a, b, rfl, Ia, Ib⟩ := open_pair (hval 0 26 v0 rfl rfl) h0
  obtain ⟨ps, hrow, _, hlen⟩ := open_row Try.underlying45 Try.underlying3 (by kernel_rfl) (hval 1 45 v1 rfl rfl) h1 hsz (j := 1) rfl rfl
  have hb : Try.prog.bytesOf 3 = 8 := by kernel_rfl
  rw [hb] at hlen
  obtain ⟨ao, cap, rfl, _⟩ := hrow.shape
  refine ⟨⟨rfl, rfl, rfl⟩, ?_⟩
  by_cases h : Good ps
  · by_cases hd : Dup ps
    · exact places_dup a b ao cap ps W hrow hlen h hd
    · exact places_good a b ao cap ps W hrow hlen h hd
  · exact places_none a b ao cap ps W hrow hlen h

set_option maxRecDepth 100000 in
theorem places_lifted (os : Os) (started : os.Started) (H : Type) (enc : TypeId × Value → H) :
    ReturnsInHanded {} Try.checked os 7 .any (Rows.vecPlacesSpec.pre6 enc Try.prog Try.f7 [] false) (Rows.vecPlacesSpec.post enc Try.prog Try.f7 false true false false) :=
  lift_law (C := Try.checked) own laidOut started (by kernel_rfl) Try.func7 (T := 4) rfl Try.underlying4 rfl (by kernel_rfl)
    (ChangeSpec.witness6 (enc := enc) (C := Try.checked) false ⟨#[], #[.agg #[.int .i32 0, .int .i32 0, .int .i32 0, .int .i32 0, .int .i32 0, .int .i32 0, .int .i32 0, .int .i32 0], .slice none 0 0], []⟩ 8 (by kernel_rfl) (by kernel_rfl) (by kernel_rfl) (by kernel_rfl)) (places_owes H enc)

theorem vecPlaces_holds : Rows.VecPlacesSaid :=
  OpenClaim.holds_of_wide 7 Try.f7 rfl rfl rfl rfl rfl rfl rfl ⟨rfl, rfl, rfl, rfl, rfl⟩ rfl rfl rfl rfl rfl (by kernel_rfl) Try.func7 (by kernel_rfl)
    (of_decide_eq_true (by kernel_rfl)) (by unfold Func.isWrapper; rw [if_neg (of_decide_eq_false (by kernel_rfl))]; exact ⟨rfl, rfl⟩)
    (fun os started H enc _ => places_lifted os started H enc)
#print axioms vecPlaces_holds
end Go.Proofs.Ytlbcflfhbhpicaa
