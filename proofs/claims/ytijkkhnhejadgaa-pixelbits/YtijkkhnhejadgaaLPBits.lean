/-
  Proved: PixelBits answers true for every number x, every y and every k, and turns nothing that was there: Bits and Number answer what the document says, or ErrArg. No condition but the form's own bound on what is read.
-/
import Derived.Test.YtijkkhnhejadgaaFr
import Derived.Test.YtijkkhnhejadgaaPW
namespace Go.Proofs.Ytijkkhnhejadgaa
open Go.ChangeShapes Go.WideShapes Go.ChangeAt Go.RowKit
open Go.ChangeMaps (open_string shut_string)

set_option maxHeartbeats 1000000 in
theorem bits_walk_bad (x y k : Int) (w : World) (h : ¬ (1 ≤ k ∧ k ≤ 16)) :
    Calls Try.prog 3 #[.int .i32 x, .int .u32 y, .int .i64 k] w fun e w' => e = .returned (.bool true) ∧ Ext w w' := by
  have HN := hide h
  go_enter Try.func3, Try.ntmps3
  go_wp2_with fail
  refine (wakes_any w).mono ?_
  rintro e w1 ⟨rfl, hx⟩
  have X := hide hx
  clear hx
  go_wp2_with fail
  refine (Bits_bad x k _ h).mono ?_
  rintro e w2 ⟨rfl, rfl⟩
  go_wp2_with fail
  refine (Number_bad y k _ h).mono ?_
  rintro e w2 ⟨rfl, rfl⟩
  by_cases h1 : k < 1
  · go_wp2
    go_ret
    exact ⟨rfl, unhide X⟩
  · have h2 : 16 < k := by omega
    go_wp2
    go_ret
    exact ⟨rfl, unhide X⟩

set_option maxHeartbeats 1000000 in
theorem bits_walk (x y : Int) (k : Nat) (w : World) (h1 : 1 ≤ k) (h2 : k ≤ 16) (hx : I32 x) (hy0 : 0 ≤ y) (hy1 : y < 4294967296) :
    Calls Try.prog 3 #[.int .i32 x, .int .u32 y, .int .i64 (k : Int)] w fun e w' => e = .returned (.bool true) ∧ Ext w w' := by
  have hm := full_pos h1 h2
  have hp : (2 : Int) ^ k = fullI k + 1 := by unfold fullI; omega
  have hw : IntKind.u64.wrap ((2 : Int) ^ k) = fullI k + 1 := by
    rw [hp]
    simp only [IntKind.wrap, IntKind.bits, IntKind.signed, Bool.false_and]
    simp
    omega
  have HX := hide hx
  clear hp hx
  go_enter Try.func3, Try.ntmps3
  go_wp2_with fail
  refine (wakes_any w).mono ?_
  rintro e w1 ⟨rfl, hxx⟩
  have X := hide hxx
  clear hxx
  go_wp2_with fail
  refine (Bits_any x k _ h1 h2).mono ?_
  rintro e w2 ⟨rfl, rfl⟩
  have k1 : (1 : Int) ≤ (k : Int) := by omega
  have k2 : (k : Int) ≤ 16 := by omega
  by_cases hyk : y ≤ fullI k
  · go_wp2_with fail
    refine (Number_any y k _ h1 h2 hy0 hyk).mono ?_
    rintro e w2 ⟨rfl, rfl⟩
    go_wp2_with fail
    refine (refBits_any x k _ h2 (unhide HX)).mono ?_
    rintro e w2 ⟨rfl, rfl⟩
    have hc : ¬ fullI k + 1 ≤ y := by omega
    go_wp2_with fail
    refine (refNumber_any y k _ h1 h2 hy0 hyk).mono ?_
    rintro e w2 ⟨rfl, rfl⟩
    go_wp2
    go_ret
    exact ⟨by simp, unhide X⟩
  · have hyk2 : fullI k < y := by omega
    have hc : fullI k + 1 ≤ y := by omega
    clear hyk
    go_wp2_with fail
    refine (Number_over y k _ h1 h2 hyk2).mono ?_
    rintro e w2 ⟨rfl, rfl⟩
    go_wp2_with fail
    refine (refBits_any x k _ h2 (unhide HX)).mono ?_
    rintro e w2 ⟨rfl, rfl⟩
    go_wp2
    go_ret
    exact ⟨by simp, unhide X⟩

theorem pbits_owes (H : Type) (enc : TypeId × Value → H) (W : World) (base : Nat) (args : Array Value) (ds : List (DataW H)) (p : List MemPlace) : Owes H enc Try.prog 3 Try.f3 Rows.pixelBitsSpec W base args ds p := by
  intro hval hA hsz
  rw [Try.params3] at hA hval hsz
  obtain ⟨v0, vs0, d0, ds0, p0, q0, hargs, rfl, rfl, h0, r0⟩ := trodAll_cons hA
  obtain ⟨v1, vs1, d1, ds1, p1, q1, rfl, rfl, rfl, h1, r1⟩ := trodAll_cons r0
  obtain ⟨v2, vs2, d2, ds2, p2, q2, rfl, rfl, rfl, h2, r2⟩ := trodAll_cons r1
  obtain ⟨rfl, rfl, rfl⟩ := trodAll_nil r2
  obtain rfl : args = #[v0, v1, v2] := by cases args; simp_all
  obtain ⟨x, rfl, rfl, rfl, wx⟩ := open_int Try.underlying22 (hval 0 22 v0 rfl rfl) h0
  obtain ⟨y, rfl, rfl, rfl, wy⟩ := open_int Try.underlying23 (hval 1 23 v1 rfl rfl) h1
  obtain ⟨k, rfl, rfl, rfl, wk⟩ := open_int Try.underlying3 (hval 2 3 v2 rfl rfl) h2
  have hy := bounds_u32 wy
  refine ⟨⟨rfl, rfl, rfl⟩, ?_⟩
  by_cases hk : 1 ≤ k ∧ k ≤ 16
  · obtain ⟨n, rfl⟩ := Int.eq_ofNat_of_zero_le (show 0 ≤ k by omega)
    exact bits_walk x y n W (by omega) (by omega) (bounds_i32 wx) (by omega) (by omega)
  · exact bits_walk_bad x y k W hk

set_option maxRecDepth 100000 in
theorem pbits_lifted (os : Os) (started : os.Started) (H : Type) (enc : TypeId × Value → H) :
    ReturnsInHanded {} Try.checked os 3 .any (Rows.pixelBitsSpec.pre6 enc Try.prog Try.f3 [] false) (Rows.pixelBitsSpec.post enc Try.prog Try.f3 false true false false) :=
  lift_law (C := Try.checked) own laidOut started (by kernel_rfl) Try.func3 (T := 4) rfl Try.underlying4 rfl (by kernel_rfl)
    (ChangeSpec.witness6 (enc := enc) (C := Try.checked) false ⟨#[], #[.int .i32 0, .int .u32 0, .int .i64 0], []⟩ 8 (by kernel_rfl) (by kernel_rfl) (by kernel_rfl) (by kernel_rfl)) (pbits_owes H enc)

theorem pixelBits_holds : Rows.PixelBitsSaid :=
  OpenClaim.holds_of_wide 3 Try.f3 rfl rfl rfl rfl rfl rfl rfl ⟨rfl, rfl, rfl, rfl, rfl⟩ rfl rfl rfl rfl rfl (by kernel_rfl) Try.func3 (by kernel_rfl)
    (of_decide_eq_true (by kernel_rfl)) (by unfold Func.isWrapper; rw [if_neg (of_decide_eq_false (by kernel_rfl))]; exact ⟨rfl, rfl⟩)
    (fun os started H enc _ => pbits_lifted os started H enc)
#print axioms pixelBits_holds
end Go.Proofs.Ytijkkhnhejadgaa
