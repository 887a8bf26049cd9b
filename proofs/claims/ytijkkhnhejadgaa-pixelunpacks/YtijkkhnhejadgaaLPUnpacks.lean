/-
  Proved: PixelUnpacks answers true for every format and all bytes, and turns nothing that was there: Unpack answers the document's colour, or ErrArg, or ErrShort. No condition but the form's own bound on what is read.
-/
import Derived.Test.YtijkkhnhejadgaaPX
import Derived.Test.YtijkkhnhejadgaaPN
import Derived.Test.YtijkkhnhejadgaaQt
namespace Go.Proofs.Ytijkkhnhejadgaa
open Go.ChangeShapes Go.WideShapes Go.ChangeAt Go.RowKit
open Go.ChangeMaps (open_string shut_string)

set_option maxHeartbeats 2000000 in
theorem unpacks_bad (f : Int) (v : Value) (xs : List Int) (w : World) (h : f < 1 ∨ 7 < f) (hr : Row .u8 w v xs) (hm : xs.length ≤ 140737488351232) :
    Calls Try.prog 5 #[.int .i64 f, v] w fun e w' => e = .returned (.bool true) ∧ Ext w w' := by
  obtain ⟨i0, hi, hz0, hz1, hz2⟩ := info_parts info5
  have hs := siz_off h
  have hE := eqV
  have HR := hide hr
  clear hr
  go_enter Try.func5, Try.ntmps5
  go_wp2_with fail
  refine (wakes_any w).mono ?_
  rintro e w1 ⟨rfl, hx⟩
  have X := hide hx
  have HR1 := hide ((unhide HR).ext (hx.alloc (.cells #[] 5)))
  clear hx
  go_wp2_with (at_builtin; refine wpList_append_Own rfl (.tmp 12) (.tmp 13) 36 rfl w1.heap.size 5 i0 .u8 1 Try.underlying36 hi hz0 hz1 hz2 _ [] rfl (Own.made w1 (Nat.le_refl _)) _ xs rfl (unhide HR1) ?c1 ?c2 ?c3 ?_)
  case c1 => unfold maxLen; simp; omega
  case c2 => simp; omega
  case c3 => simp
  intro v2 w2 hown hgrow
  obtain ⟨ao2, cap2, rfl⟩ := hown.shape
  have X2 : Hid (Ext w w2) := (unhide X).trans (((Below.refl _ _).alloc (Nat.le_refl _) _).grown hgrow (by simp) (by simp [Value.ownBlock]))
  clear hown hgrow X HR1
  go_wp2_with fail
  refine (unpack_bad f _ _ h).mono ?_
  rintro e w3 ⟨rfl, hx⟩
  have X3 := hide ((unhide X2).trans hx)
  clear hx
  have z : ∀ i, nul i = 0 := fun _ => rfl
  rw [z, z, z, z]
  go_wp2_with fail
  refine (refSize_any f _).mono ?_
  rintro e w4 ⟨rfl, rfl⟩
  rw [hs]
  go_wp2
  go_ret
  exact ⟨rfl, (unhide X3).alloc _⟩

set_option maxHeartbeats 2000000 in
theorem unpacks_off (f : Nat) (ao : Option Addr) (cap : Nat) (xs : List Int) (w : World) (h1 : 1 ≤ f) (h7 : f ≤ 7) (hr : Row .u8 w (.slice ao xs.length cap) xs) (hm : xs.length ≤ 140737488351232) (hl : xs.length ≠ siz f) :
    Calls Try.prog 5 #[.int .i64 (f : Int), .slice ao xs.length cap] w fun e w' => e = .returned (.bool true) ∧ Ext w w' := by
  obtain ⟨i0, hi, hz0, hz1, hz2⟩ := info_parts info5
  have hE := eqV
  have hs3 := siz_three h1 h7
  have hs0 : ((siz f : Int) == 0) = false := by simp; omega
  have hd : ((xs.length : Int) != (siz f : Int)) = true := by simp; omega
  have HS := hide (siz_eq f)
  have HL := hide hl
  have HR := hide hr
  clear hr hl hs3
  go_enter Try.func5, Try.ntmps5
  go_wp2_with fail
  refine (wakes_any w).mono ?_
  rintro e w1 ⟨rfl, hx⟩
  have X := hide hx
  have HR1 := hide ((unhide HR).ext (hx.alloc (.cells #[] 5)))
  clear hx
  go_wp2_with (at_builtin; refine wpList_append_Own rfl (.tmp 12) (.tmp 13) 36 rfl w1.heap.size 5 i0 .u8 1 Try.underlying36 hi hz0 hz1 hz2 _ [] rfl (Own.made w1 (Nat.le_refl _)) _ xs rfl (unhide HR1) ?c1 ?c2 ?c3 ?_)
  case c1 => unfold maxLen; simp; omega
  case c2 => simp; omega
  case c3 => simp
  intro v2 w2 hown hgrow
  obtain ⟨ao2, cap2, rfl⟩ := hown.shape
  have R2 := hide hown.row
  have X2 : Hid (Ext w w2) := (unhide X).trans (((Below.refl _ _).alloc (Nat.le_refl _) _).grown hgrow (by simp) (by simp [Value.ownBlock]))
  clear hown hgrow X HR1
  clear R2
  go_wp2_with fail
  refine (unpack_off f ao2 xs.length cap2 _ h1 h7 (unhide HL)).mono ?_
  rintro e w3 ⟨rfl, hx⟩
  have X3 := hide ((unhide X2).trans hx)
  clear hx
  have z : ∀ i, nul i = 0 := fun _ => rfl
  rw [z, z, z, z]
  go_wp2_with fail
  refine (refSize_any f _).mono ?_
  rintro e w4 ⟨rfl, rfl⟩
  rw [← unhide HS]
  go_wp2
  go_ret
  exact ⟨rfl, (unhide X3).alloc _⟩

set_option maxHeartbeats 4000000 in
theorem unpacks_walk (f : Nat) (ao : Option Addr) (cap : Nat) (xs : List Int) (w : World) (h1 : 1 ≤ f) (h7 : f ≤ 7) (hr : Row .u8 w (.slice ao xs.length cap) xs) (hm : xs.length ≤ 140737488351232) (hB : Byt xs) (hl : xs.length = siz f) :
    Calls Try.prog 5 #[.int .i64 (f : Int), .slice ao xs.length cap] w fun e w' => e = .returned (.bool true) ∧ Ext w w' := by
  obtain ⟨i0, hi, hz0, hz1, hz2⟩ := info_parts info5
  have hE := eqV
  have hs3 := siz_three h1 h7
  have hs0 : ((siz f : Int) == 0) = false := by simp; omega
  have hd : ((xs.length : Int) != (siz f : Int)) = false := by simp; omega
  have HS := hide (siz_eq f)
  have HL := hide hl
  have HR := hide hr
  clear hr hl hs3
  go_enter Try.func5, Try.ntmps5
  go_wp2_with fail
  refine (wakes_any w).mono ?_
  rintro e w1 ⟨rfl, hx⟩
  have X := hide hx
  have HR1 := hide ((unhide HR).ext (hx.alloc (.cells #[] 5)))
  clear hx
  go_wp2_with (at_builtin; refine wpList_append_Own rfl (.tmp 12) (.tmp 13) 36 rfl w1.heap.size 5 i0 .u8 1 Try.underlying36 hi hz0 hz1 hz2 _ [] rfl (Own.made w1 (Nat.le_refl _)) _ xs rfl (unhide HR1) ?c1 ?c2 ?c3 ?_)
  case c1 => unfold maxLen; simp; omega
  case c2 => simp; omega
  case c3 => simp
  intro v2 w2 hown hgrow
  obtain ⟨ao2, cap2, rfl⟩ := hown.shape
  have R2 := hide hown.row
  have X2 : Hid (Ext w w2) := (unhide X).trans (((Below.refl _ _).alloc (Nat.le_refl _) _).grown hgrow (by simp) (by simp [Value.ownBlock]))
  clear hown hgrow X HR1
  go_wp2_with fail
  refine (unpack_any f ao2 cap2 xs _ h1 h7 (unhide R2) hB (unhide HL)).mono ?_
  rintro e w3 ⟨rfl, hx⟩
  obtain ⟨c, HC⟩ : ∃ c, Hid (colN f (numOf xs) = c) := ⟨_, rfl⟩
  rw [unhide HC]
  have X3 := hide (((unhide X2).trans hx).alloc (.cells #[.int .i32 (c 0), .int .i32 (c 1), .int .i32 (c 2), .int .i32 (c 3)] 35))
  have B3 := hide (Blk.at (w := w3) (cs := #[.int .i32 (c 0), .int .i32 (c 1), .int .i32 (c 2), .int .i32 (c 3)]) (t := 35) rfl)
  clear hx X2 R2
  go_wp2_with fail
  refine (refSize_any f _).mono ?_
  rintro e w4 ⟨rfl, rfl⟩
  rw [← unhide HS]
  obtain ⟨p0, p1, p2, p3⟩ := (unhide B3).vec4
  have l0 := cell_later p0
  have l1 := cell_later p1
  have l2 := cell_later p2
  have l3 := cell_later p3
  clear p0 p1 p2 p3
  have hne := Later.some (w3.alloc (.cells #[.int .i32 (c 0), .int .i32 (c 1), .int .i32 (c 2), .int .i32 (c 3)] 35))
  have HR3 := hide ((unhide HR).ext (unhide X3))
  have HU : Hid (∀ W, Row .u8 W (.slice ao xs.length cap) xs → Calls Try.prog 20 #[.int .i64 (f : Int), .slice ao xs.length cap] W fun e w' => e = .returned (.agg #[.int .i32 (c 0), .int .i32 (c 1), .int .i32 (c 2), .int .i32 (c 3)]) ∧ Ext W w') := by
    intro W hW
    have := refUnpack_any f ao cap xs W h1 h7 hW hB (unhide HL)
    rw [unhide HC] at this
    exact this
  go_wp2
  refine wp_region_later (by kernel_rfl) (by kernel_rfl) ?_
  repeat (go_big_quiet_step (first | (go_at_call 20; refine calls_later (unhide HU _ ((unhide HR3).ext (Later.ext _))))))
  refine wpQuiet_nil ?_
  rintro _ ⟨x, rfl⟩
  go_wp2
  go_ret
  exact ⟨by simp, (unhide X3).trans x.ext⟩

theorem punpacks_owes (H : Type) (enc : TypeId × Value → H) (W : World) (base : Nat) (args : Array Value) (ds : List (DataW H)) (p : List MemPlace) : Owes H enc Try.prog 5 Try.f5 Rows.pixelUnpacksSpec W base args ds p := by
  intro hval hA hsz
  rw [Try.params5] at hA hval hsz
  obtain ⟨v0, vs0, d0, ds0, p0, q0, hargs, rfl, rfl, h0, r0⟩ := trodAll_cons hA
  obtain ⟨v1, vs1, d1, ds1, p1, q1, rfl, rfl, rfl, h1, r1⟩ := trodAll_cons r0
  obtain ⟨rfl, rfl, rfl⟩ := trodAll_nil r1
  obtain rfl : args = #[v0, v1] := by cases args; simp_all
  obtain ⟨f, rfl, rfl, rfl, wf⟩ := open_int Try.underlying3 (hval 0 3 v0 rfl rfl) h0
  obtain ⟨xs, hrow, hwf, hlen⟩ := open_row (j := 1) Try.underlying36 Try.underlying5 (by kernel_rfl) (hval 1 36 v1 rfl rfl) h1 hsz rfl rfl
  have hb : Try.prog.bytesOf 5 = 1 := by kernel_rfl
  rw [hb] at hlen
  have hB : Byt xs := fun x hx => bounds_u8 (hwf x hx)
  refine ⟨⟨rfl, rfl, rfl⟩, ?_⟩
  by_cases hf : f < 1 ∨ 7 < f
  · exact unpacks_bad f v1 xs W hf hrow (by omega)
  · obtain ⟨n, rfl⟩ := Int.eq_ofNat_of_zero_le (show 0 ≤ f by omega)
    obtain ⟨ao, cap, rfl, _⟩ := hrow.shape
    by_cases hl : xs.length = siz n
    · exact unpacks_walk n ao cap xs W (by omega) (by omega) hrow (by omega) hB hl
    · exact unpacks_off n ao cap xs W (by omega) (by omega) hrow (by omega) hl

set_option maxRecDepth 100000 in
theorem punpacks_lifted (os : Os) (started : os.Started) (H : Type) (enc : TypeId × Value → H) :
    ReturnsInHanded {} Try.checked os 5 .any (Rows.pixelUnpacksSpec.pre6 enc Try.prog Try.f5 [] false) (Rows.pixelUnpacksSpec.post enc Try.prog Try.f5 false true false false) :=
  lift_law (C := Try.checked) own laidOut started (by kernel_rfl) Try.func5 (T := 4) rfl Try.underlying4 rfl (by kernel_rfl)
    (ChangeSpec.witness6 (enc := enc) (C := Try.checked) false ⟨#[], #[.int .i64 0, .slice none 0 0], []⟩ 8 (by kernel_rfl) (by kernel_rfl) (by kernel_rfl) (by kernel_rfl)) (punpacks_owes H enc)

theorem pixelUnpacks_holds : Rows.PixelUnpacksSaid :=
  OpenClaim.holds_of_wide 5 Try.f5 rfl rfl rfl rfl rfl rfl rfl ⟨rfl, rfl, rfl, rfl, rfl⟩ rfl rfl rfl rfl rfl (by kernel_rfl) Try.func5 (by kernel_rfl)
    (of_decide_eq_true (by kernel_rfl)) (by unfold Func.isWrapper; rw [if_neg (of_decide_eq_false (by kernel_rfl))]; exact ⟨rfl, rfl⟩)
    (fun os started H enc _ => punpacks_lifted os started H enc)
#print axioms pixelUnpacks_holds
end Go.Proofs.Ytijkkhnhejadgaa
