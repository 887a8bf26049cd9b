/-
  Proved: PixelPacks answers true for every format and every colour, and turns nothing that was there: Pack answers the document's bytes, or ErrArg, and Size the bytes of a pixel. No condition but the form's own bound on what is read.
-/
import Derived.Test.YtijkkhnhejadgaaPX
import Derived.Test.YtijkkhnhejadgaaPL
namespace Go.Proofs.Ytijkkhnhejadgaa
open Go.ChangeShapes Go.WideShapes Go.ChangeAt Go.RowKit
open Go.ChangeMaps (open_string shut_string)

set_option maxHeartbeats 1000000 in
theorem packs_bad (f : Int) (c : Nat → Int) (w : World) (h : f < 1 ∨ 7 < f) :
    Calls Try.prog 4 #[.int .i64 f, .agg #[.int .i32 (c 0), .int .i32 (c 1), .int .i32 (c 2), .int .i32 (c 3)]] w fun e w' => e = .returned (.bool true) ∧ Ext w w' := by
  have hs := siz_off h
  have B0 := hide (Blk.at (w := w) (cs := #[.int .i32 (c 0), .int .i32 (c 1), .int .i32 (c 2), .int .i32 (c 3)]) (t := 35) rfl)
  go_enter Try.func4, Try.ntmps4
  go_wp2_with fail
  refine (wakes_any _).mono ?_
  rintro e w1 ⟨rfl, hx⟩
  obtain ⟨c0, c1, c2, c3⟩ := ((unhide B0).ext hx).vec4
  have X := hide (((Ext.refl w).alloc _).trans hx)
  clear hx
  go_wp2_with fail
  refine (pack_bad f c _ h).mono ?_
  rintro e w2 ⟨rfl, hx⟩
  have X2 := hide ((unhide X).trans hx)
  clear hx c0 c1 c2 c3
  go_wp2_with fail
  refine (size_any f _).mono ?_
  rintro e w3 ⟨rfl, hx⟩
  rw [hs]
  have X3 := hide ((unhide X2).trans hx)
  clear hx
  go_wp2_with fail
  refine (refSize_any f _).mono ?_
  rintro e w4 ⟨rfl, rfl⟩
  rw [hs]
  go_wp2_with fail
  refine (refSize_any f _).mono ?_
  rintro e w4 ⟨rfl, rfl⟩
  rw [hs]
  go_wp2
  go_ret
  exact ⟨rfl, unhide X3⟩

set_option maxHeartbeats 1000000 in
theorem packs_walk (f : Nat) (c : Nat → Int) (w : World) (h1 : 1 ≤ f) (h7 : f ≤ 7) (hI : ∀ i, I32 (c i)) :
    Calls Try.prog 4 #[.int .i64 (f : Int), .agg #[.int .i32 (c 0), .int .i32 (c 1), .int .i32 (c 2), .int .i32 (c 3)]] w fun e w' => e = .returned (.bool true) ∧ Ext w w' := by
  have hs3 := siz_three h1 h7
  have hs0 : ((siz f : Int) == 0) = false := by simp; omega
  have HE := hide (siz_eq f)
  have HS := hide hs3
  have HP := hide (pk_length f c)
  have HI := hide hI
  clear hs3 hI
  have B0 := hide (Blk.at (w := w) (cs := #[.int .i32 (c 0), .int .i32 (c 1), .int .i32 (c 2), .int .i32 (c 3)]) (t := 35) rfl)
  go_enter Try.func4, Try.ntmps4
  go_wp2_with fail
  refine (wakes_any _).mono ?_
  rintro e w1 ⟨rfl, hx⟩
  have B1 := hide ((unhide B0).ext hx)
  obtain ⟨c0, c1, c2, c3⟩ := (unhide B1).vec4
  have X := hide (((Ext.refl w).alloc _).trans hx)
  clear hx B0
  go_wp2_with fail
  refine (pack_any f c _ h1 h7).mono ?_
  rintro e w2 ⟨ao, cap, rfl, hr, hx⟩
  have D2 := hide (And.intro hr (And.intro ((unhide B1).ext hx) ((unhide X).trans hx)))
  clear hr hx c0 c1 c2 c3 B1 X
  go_wp2_with fail
  refine (size_any f _).mono ?_
  rintro e w3 ⟨rfl, hx⟩
  rw [← unhide HE]
  have D3 := hide (And.intro ((unhide D2).1.ext hx) (And.intro ((unhide D2).2.1.ext hx) ((unhide D2).2.2.trans hx)))
  clear hx D2
  obtain ⟨c0, c1, c2, c3⟩ := (unhide D3).2.1.vec4
  go_wp2_with fail
  refine (refSize_any f _).mono ?_
  rintro e w4 ⟨rfl, rfl⟩
  rw [← unhide HE]
  go_wp2_with fail
  refine (refSize_any f _).mono ?_
  rintro e w4 ⟨rfl, rfl⟩
  rw [← unhide HE]
  go_wp2_with fail
  refine (refPack_any f c _ h1 h7 (unhide HI)).mono ?_
  rintro e w5 ⟨ao2, cap2, rfl, hr, hx⟩
  have D5 := hide (And.intro hr (And.intro ((unhide D3).1.ext hx) ((unhide D3).2.2.trans hx)))
  clear hr hx c0 c1 c2 c3 D3
  go_wp2_with fail
  refine (same_any _ _ (pk f c) (pk f c) _ (unhide D5).2.1 (unhide D5).1 (by rw [unhide HP]; have := unhide HS; omega)).mono ?_
  rintro e w6 ⟨rfl, n, rfl⟩
  rw [decide_eq_true rfl]
  go_wp2
  go_ret
  exact ⟨rfl, (unhide D5).2.2.drewN _⟩

theorem ppacks_owes (H : Type) (enc : TypeId × Value → H) (W : World) (base : Nat) (args : Array Value) (ds : List (DataW H)) (p : List MemPlace) : Owes H enc Try.prog 4 Try.f4 Rows.pixelPacksSpec W base args ds p := by
  intro hval hA hsz
  rw [Try.params4] at hA hval hsz
  obtain ⟨v0, vs0, d0, ds0, p0, q0, hargs, rfl, rfl, h0, r0⟩ := trodAll_cons hA
  obtain ⟨v1, vs1, d1, ds1, p1, q1, rfl, rfl, rfl, h1, r1⟩ := trodAll_cons r0
  obtain ⟨rfl, rfl, rfl⟩ := trodAll_nil r1
  obtain rfl : args = #[v0, v1] := by cases args; simp_all
  obtain ⟨f, rfl, rfl, rfl, wf⟩ := open_int Try.underlying3 (hval 0 3 v0 rfl rfl) h0
  obtain ⟨c, rfl, hI⟩ := open_vec (hval 1 35 v1 rfl rfl) h1
  refine ⟨⟨rfl, rfl, rfl⟩, ?_⟩
  by_cases hf : f < 1 ∨ 7 < f
  · exact packs_bad f c W hf
  · obtain ⟨n, rfl⟩ := Int.eq_ofNat_of_zero_le (show 0 ≤ f by omega)
    exact packs_walk n c W (by omega) (by omega) hI

set_option maxRecDepth 100000 in
theorem ppacks_lifted (os : Os) (started : os.Started) (H : Type) (enc : TypeId × Value → H) :
    ReturnsInHanded {} Try.checked os 4 .any (Rows.pixelPacksSpec.pre6 enc Try.prog Try.f4 [] false) (Rows.pixelPacksSpec.post enc Try.prog Try.f4 false true false false) :=
  lift_law (C := Try.checked) own laidOut started (by kernel_rfl) Try.func4 (T := 4) rfl Try.underlying4 rfl (by kernel_rfl)
    (ChangeSpec.witness6 (enc := enc) (C := Try.checked) false ⟨#[], #[.int .i64 0, .agg #[.int .i32 0, .int .i32 0, .int .i32 0, .int .i32 0]], []⟩ 8 (by kernel_rfl) (by kernel_rfl) (by kernel_rfl) (by kernel_rfl)) (ppacks_owes H enc)

theorem pixelPacks_holds : Rows.PixelPacksSaid :=
  OpenClaim.holds_of_wide 4 Try.f4 rfl rfl rfl rfl rfl rfl rfl ⟨rfl, rfl, rfl, rfl, rfl⟩ rfl rfl rfl rfl rfl (by kernel_rfl) Try.func4 (by kernel_rfl)
    (of_decide_eq_true (by kernel_rfl)) (by unfold Func.isWrapper; rw [if_neg (of_decide_eq_false (by kernel_rfl))]; exact ⟨rfl, rfl⟩)
    (fun os started H enc _ => ppacks_lifted os started H enc)
#print axioms pixelPacks_holds
end Go.Proofs.Ytijkkhnhejadgaa
