/-
  KindsFields: what comes of whatever field of whatever type, and its places, is as the document says, or refused; for every type and text.
-/
import Derived.Test.YtokmplebajgckaaKV
import Derived.Test.YtokmplebajgckaaKJb
import Derived.Test.YtokmplebajgckaaFrK
namespace Go.Proofs.Ytokmplebajgckaa
open Go.ChangeShapes Go.WideShapes Go.ChangeAt Go.RowKit
open Go.ChangeMaps (open_string)
set_option linter.unusedSimpArgs false
set_option linter.unusedVariables false

set_option maxHeartbeats 4000000 in
theorem kindsFields_any (t : Ty) (s : ByteArray) (w : World) :
    Calls Try.prog 5 #[.agg #[.int .i64 (t).1, .int .i64 (t).2], .string s] w fun e w' => e = .returned (.bool true) ∧ Ext w w' := by
  have HW := hide wakes13_any
  have HA := hide (field_any t s)
  have HB := hide (refField_any t s)
  generalize fieldP t s.data.toList = U at *
  obtain ⟨u, XS, er⟩ := U
  dsimp only at HA HB
  have B := hide (Blk.new w #[.int .i64 (t).1, .int .i64 (t).2] 23)
  have X := hide ((Ext.refl w).alloc (.cells #[.int .i64 (t).1, .int .i64 (t).2] 23))
  go_enter Try.func5, Try.ntmps5
  go_wp2_with fail
  refine (unhide HW _).mono ?_
  rintro e w1 ⟨rfl, hx⟩
  replace B := hide ((unhide B).ext hx)
  replace X := hide ((unhide X).trans hx)
  clear hx HW
  obtain ⟨k0, k1⟩ := (unhide B).two
  go_wp2_with fail
  refine (unhide HA _).mono ?_
  rintro e w2 ⟨va, rfl, hra, hx⟩
  replace B := hide (((unhide B).ext hx).alloc (.cells #[.int .i64 (u).1, .int .i64 (u).2] 23))
  replace X := hide (((unhide X).trans hx).alloc (.cells #[.int .i64 (u).1, .int .i64 (u).2] 23))
  have D0 := hide (Blk.new w2 #[.int .i64 (u).1, .int .i64 (u).2] 23)
  have RA := hide ((hra.row).ext ((Ext.refl w2).alloc (.cells #[.int .i64 (u).1, .int .i64 (u).2] 23)))
  obtain ⟨ao, cap, rfl, -, hcap, hmax⟩ := hra.row.shape
  clear hx hra k0 k1 HA
  go_upto_region 4 with fail
  generalize w2.alloc (.cells #[.int .i64 (u).1, .int .i64 (u).2] 23) = w3 at B X D0 RA ⊢
  generalize w2.heap.size = r0 at *
  obtain ⟨k0, k1⟩ := (unhide B).two
  go_wp2_with fail
  refine (unhide HB _).mono ?_
  rintro e w4 ⟨vb, rfl, hrb, hx⟩
  replace B := hide (((unhide B).ext hx).alloc (.cells #[.int .i64 (u).1, .int .i64 (u).2] 23))
  replace X := hide (((unhide X).trans hx).alloc (.cells #[.int .i64 (u).1, .int .i64 (u).2] 23))
  replace D0 := hide (((unhide D0).ext hx).alloc (.cells #[.int .i64 (u).1, .int .i64 (u).2] 23))
  replace RA := hide (((unhide RA).ext hx).ext ((Ext.refl w4).alloc (.cells #[.int .i64 (u).1, .int .i64 (u).2] 23)))
  have D1 := hide (Blk.new w4 #[.int .i64 (u).1, .int .i64 (u).2] 23)
  have RB := hide ((hrb.row).ext ((Ext.refl w4).alloc (.cells #[.int .i64 (u).1, .int .i64 (u).2] 23)))
  obtain ⟨bo, bcap, rfl, -, -, -⟩ := hrb.row.shape
  clear hx hrb k0 k1 HB
  go_upto_region 5 with fail
  generalize w4.alloc (.cells #[.int .i64 (u).1, .int .i64 (u).2] 23) = w5 at B X D0 D1 RA RB ⊢
  generalize w4.heap.size = r1 at *
  obtain ⟨p0, p1⟩ := (unhide D0).two
  obtain ⟨q0, q1⟩ := (unhide D1).two
  have hlen : XS.length ≤ maxLen := by omega
  unfold maxLen at hlen
  clear hcap hmax
  go_wp2
  go_loopw [45] (fun i wr => ∃ k : Nat, k ≤ XS.length ∧ i = .int .i64 (k : Int) ∧ Hid (Ext w5 wr)) (fun i _ => XS.length - (intOf i).toNat)
  case atStart => exact ⟨0, by omega, rfl, Ext.refl w5⟩
  case round =>
    obtain ⟨k, hk, rfl, hxr⟩ := hrel
    by_cases hlt : k < XS.length
    · obtain ⟨b1, o1, e1, ca⟩ := ((unhide RA).ext (unhide hxr)).at k hlt
      obtain ⟨b2, o2, e2, cb⟩ := ((unhide RB).ext (unhide hxr)).at k hlt
      have ca1 := ca k hlt
      have cb1 := cb k hlt
      subst e1 e2
      clear ca cb
      generalize XS[k] = d at *
      have HXD := hide (fun m => (unhide hxr).drewN m)
      have hkl : (k : Int) < (XS.length : Int) := by omega
      have qd : (d != d) = false := by simp
      go_wp2
      go_quiet (fail)
      go_wp2
      go_roundw
      case rel => exact ⟨k + 1, by omega, by go_num, unhide HXD _⟩
      case measure => simp [intOf]; omega
    · have HXF := hide ((unhide X).trans (unhide hxr))
      go_wp2
      go_ret
      exact ⟨rfl, unhide HXF⟩

set_option maxRecDepth 100000 in
theorem kindsFields_owes (H : Type) (enc : TypeId × Value → H) (W : World) (base : Nat) (args : Array Value) (ds : List (DataW H)) (p : List MemPlace) : Owes H enc Try.prog 5 Try.f5 Rows.kindsFieldsSpec W base args ds p := by
  intro hval hA hsz
  rw [Try.params5] at hA hval hsz
  obtain ⟨v0, vs0, d0, ds0, p0, q0, hargs, rfl, rfl, h0, r0⟩ := trodAll_cons hA
  obtain ⟨v1, vs1, d1, ds1, p1, q1, rfl, rfl, rfl, h1, r1⟩ := trodAll_cons r0
  obtain ⟨rfl, rfl, rfl⟩ := trodAll_nil r1
  obtain rfl : args = #[v0, v1] := by cases args; simp_all
  obtain ⟨t, rfl⟩ := open_ty (hval 0 23 v0 rfl rfl) h0
  obtain ⟨s, rfl, rfl, rfl, ws⟩ := open_string Try.underlying9 (hval 1 9 v1 rfl rfl) h1
  exact ⟨⟨rfl, rfl, rfl⟩, kindsFields_any t s W⟩

set_option maxRecDepth 100000 in
theorem kindsFields_lifted (os : Os) (started : os.Started) (H : Type) (enc : TypeId × Value → H) :
    ReturnsInHanded {} Try.checked os 5 .any (Rows.kindsFieldsSpec.pre6 enc Try.prog Try.f5 [] false) (Rows.kindsFieldsSpec.post enc Try.prog Try.f5 false true false false) :=
  lift_law (C := Try.checked) own laidOut started (by kernel_rfl) Try.func5 (T := 4) rfl Try.underlying4 rfl (by kernel_rfl)
    (ChangeSpec.witness6 (enc := enc) (C := Try.checked) false ⟨#[], #[.agg #[.int .i64 0, .int .i64 0], .string ⟨#[]⟩], []⟩ 8 (by kernel_rfl) (by kernel_rfl) (by kernel_rfl) (by kernel_rfl)) (kindsFields_owes H enc)

theorem kindsFields_holds : Rows.KindsFieldsSaid :=
  OpenClaim.holds_of_wide 5 Try.f5 rfl rfl rfl rfl rfl rfl rfl ⟨rfl, rfl, rfl, rfl, rfl⟩ rfl rfl rfl rfl rfl (by kernel_rfl) Try.func5 (by kernel_rfl)
    (of_decide_eq_true (by kernel_rfl)) (by unfold Func.isWrapper; rw [if_neg (of_decide_eq_false (by kernel_rfl))]; exact ⟨rfl, rfl⟩)
    (fun os started H enc _ => kindsFields_lifted os started H enc)
#print axioms kindsFields_holds
end Go.Proofs.Ytokmplebajgckaa
