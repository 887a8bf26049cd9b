/-
  KindsOperators: what comes of whatever operator of whatever types is as the document says, or refused; for every text and three types.
-/
import Derived.Test.YtokmplebajgckaaKV
import Derived.Test.YtokmplebajgckaaKF
import Derived.Test.YtokmplebajgckaaKU
import Derived.Test.YtokmplebajgckaaKUc
import Derived.Test.YtokmplebajgckaaFrK
import Derived.Deep.Strs
namespace Go.Proofs.Ytokmplebajgckaa
open Go.ChangeShapes Go.WideShapes Go.ChangeAt Go.RowKit
open Go.ChangeMaps (open_string)
set_option linter.unusedSimpArgs false
set_option linter.unusedVariables false

theorem Blk.six {w : World} {b : Nat} {x0 x1 x2 x3 x4 x5 : Value} {t : TypeId} (h : Blk w b #[x0, x1, x2, x3, x4, x5] t) : w.cell? ⟨b, 0, none⟩ = some x0 ∧ w.cell? ⟨b, 1, none⟩ = some x1 ∧ w.cell? ⟨b, 2, none⟩ = some x2 ∧ w.cell? ⟨b, 3, none⟩ = some x3 ∧ w.cell? ⟨b, 4, none⟩ = some x4 ∧ w.cell? ⟨b, 5, none⟩ = some x5 := ⟨h.cell rfl, h.cell rfl, h.cell rfl, h.cell rfl, h.cell rfl, h.cell rfl⟩
set_option maxHeartbeats 8000000 in
set_option maxRecDepth 100000 in
theorem kindsOps_any (o : Byts8) (a c d : Ty) (w : World) :
    Calls Try.prog 4 #[.string ⟨o.toArray⟩, .agg #[.int .i64 a.1, .int .i64 a.2, .int .i64 c.1, .int .i64 c.2, .int .i64 d.1, .int .i64 d.2]] w fun e w' => e = .returned (.bool true) ∧ Ext w w' := by
  have HW := hide wakes13_any
  have HC0 := hide (binary_any o a c)
  have HC1 := hide (refBinary_any o a c)
  have HC2 := hide (unary_any o a)
  have HC3 := hide (refUnary_any o a)
  have HC4 := hide (assign_any o a c)
  have HC5 := hide (refAssign_any o a c)
  have HC6 := hide (cond_any d a c)
  have HC7 := hide (refCond_any d a c)
  generalize binP o a c = U0 at *
  generalize unaP o a = U1 at *
  generalize asgP o a c = U2 at *
  generalize conP d a c = U3 at *
  have B := hide (Blk.new w #[.int .i64 a.1, .int .i64 a.2, .int .i64 c.1, .int .i64 c.2, .int .i64 d.1, .int .i64 d.2] 36)
  have X := hide ((Ext.refl w).alloc (.cells #[.int .i64 a.1, .int .i64 a.2, .int .i64 c.1, .int .i64 c.2, .int .i64 d.1, .int .i64 d.2] 36))
  go_enter Try.func4, Try.ntmps4
  go_wp2_with fail
  refine (unhide HW _).mono ?_
  rintro e w0 ⟨rfl, hx⟩
  replace B := hide ((unhide B).ext hx)
  replace X := hide ((unhide X).trans hx)
  clear hx HW
  obtain ⟨k0, k1, k2, k3, k4, k5⟩ := (unhide B).six
  go_wp2_with fail
  refine (unhide HC0 _).mono ?_
  rintro e wa0 ⟨rfl, hx⟩
  replace B := hide (((unhide B).ext hx).alloc (.cells #[.int .i64 (U0.1).1, .int .i64 (U0.1).2] 23))
  replace X := hide (((unhide X).trans hx).alloc (.cells #[.int .i64 (U0.1).1, .int .i64 (U0.1).2] 23))
  have D0 := hide (Blk.new wa0 #[.int .i64 (U0.1).1, .int .i64 (U0.1).2] 23)
  clear hx k0 k1 k2 k3 k4 k5 HC0
  go_upto_region 4 with fail
  generalize wa0.alloc (.cells #[.int .i64 (U0.1).1, .int .i64 (U0.1).2] 23) = wb0 at B X D0 ⊢
  generalize wa0.heap.size = r0 at *
  obtain ⟨k0, k1, k2, k3, k4, k5⟩ := (unhide B).six
  go_wp2_with fail
  refine (unhide HC1 _).mono ?_
  rintro e wa1 ⟨rfl, hx⟩
  replace B := hide (((unhide B).ext hx).alloc (.cells #[.int .i64 (U0.1).1, .int .i64 (U0.1).2] 23))
  replace X := hide (((unhide X).trans hx).alloc (.cells #[.int .i64 (U0.1).1, .int .i64 (U0.1).2] 23))
  replace D0 := hide (((unhide D0).ext hx).alloc (.cells #[.int .i64 (U0.1).1, .int .i64 (U0.1).2] 23))
  have D1 := hide (Blk.new wa1 #[.int .i64 (U0.1).1, .int .i64 (U0.1).2] 23)
  clear hx k0 k1 k2 k3 k4 k5 HC1
  go_upto_region 5 with fail
  generalize wa1.alloc (.cells #[.int .i64 (U0.1).1, .int .i64 (U0.1).2] 23) = wb1 at B X D0 D1 ⊢
  generalize wa1.heap.size = r1 at *
  obtain ⟨k0, k1, k2, k3, k4, k5⟩ := (unhide B).six
  go_wp2_with fail
  refine (unhide HC2 _).mono ?_
  rintro e wa2 ⟨rfl, hx⟩
  replace B := hide (((unhide B).ext hx).alloc (.cells #[.int .i64 (U1.1).1, .int .i64 (U1.1).2] 23))
  replace X := hide (((unhide X).trans hx).alloc (.cells #[.int .i64 (U1.1).1, .int .i64 (U1.1).2] 23))
  replace D0 := hide (((unhide D0).ext hx).alloc (.cells #[.int .i64 (U1.1).1, .int .i64 (U1.1).2] 23))
  replace D1 := hide (((unhide D1).ext hx).alloc (.cells #[.int .i64 (U1.1).1, .int .i64 (U1.1).2] 23))
  have D2 := hide (Blk.new wa2 #[.int .i64 (U1.1).1, .int .i64 (U1.1).2] 23)
  clear hx k0 k1 k2 k3 k4 k5 HC2
  go_upto_region 6 with fail
  generalize wa2.alloc (.cells #[.int .i64 (U1.1).1, .int .i64 (U1.1).2] 23) = wb2 at B X D0 D1 D2 ⊢
  generalize wa2.heap.size = r2 at *
  obtain ⟨k0, k1, k2, k3, k4, k5⟩ := (unhide B).six
  go_wp2_with fail
  refine (unhide HC3 _).mono ?_
  rintro e wa3 ⟨rfl, hx⟩
  replace B := hide (((unhide B).ext hx).alloc (.cells #[.int .i64 (U1.1).1, .int .i64 (U1.1).2] 23))
  replace X := hide (((unhide X).trans hx).alloc (.cells #[.int .i64 (U1.1).1, .int .i64 (U1.1).2] 23))
  replace D0 := hide (((unhide D0).ext hx).alloc (.cells #[.int .i64 (U1.1).1, .int .i64 (U1.1).2] 23))
  replace D1 := hide (((unhide D1).ext hx).alloc (.cells #[.int .i64 (U1.1).1, .int .i64 (U1.1).2] 23))
  replace D2 := hide (((unhide D2).ext hx).alloc (.cells #[.int .i64 (U1.1).1, .int .i64 (U1.1).2] 23))
  have D3 := hide (Blk.new wa3 #[.int .i64 (U1.1).1, .int .i64 (U1.1).2] 23)
  clear hx k0 k1 k2 k3 k4 k5 HC3
  go_upto_region 7 with fail
  generalize wa3.alloc (.cells #[.int .i64 (U1.1).1, .int .i64 (U1.1).2] 23) = wb3 at B X D0 D1 D2 D3 ⊢
  generalize wa3.heap.size = r3 at *
  obtain ⟨k0, k1, k2, k3, k4, k5⟩ := (unhide B).six
  go_wp2_with fail
  refine (unhide HC4 _).mono ?_
  rintro e wa4 ⟨rfl, hx⟩
  replace B := hide (((unhide B).ext hx).alloc (.cells #[.int .i64 (U2.1).1, .int .i64 (U2.1).2] 23))
  replace X := hide (((unhide X).trans hx).alloc (.cells #[.int .i64 (U2.1).1, .int .i64 (U2.1).2] 23))
  replace D0 := hide (((unhide D0).ext hx).alloc (.cells #[.int .i64 (U2.1).1, .int .i64 (U2.1).2] 23))
  replace D1 := hide (((unhide D1).ext hx).alloc (.cells #[.int .i64 (U2.1).1, .int .i64 (U2.1).2] 23))
  replace D2 := hide (((unhide D2).ext hx).alloc (.cells #[.int .i64 (U2.1).1, .int .i64 (U2.1).2] 23))
  replace D3 := hide (((unhide D3).ext hx).alloc (.cells #[.int .i64 (U2.1).1, .int .i64 (U2.1).2] 23))
  have D4 := hide (Blk.new wa4 #[.int .i64 (U2.1).1, .int .i64 (U2.1).2] 23)
  clear hx k0 k1 k2 k3 k4 k5 HC4
  go_upto_region 8 with fail
  generalize wa4.alloc (.cells #[.int .i64 (U2.1).1, .int .i64 (U2.1).2] 23) = wb4 at B X D0 D1 D2 D3 D4 ⊢
  generalize wa4.heap.size = r4 at *
  obtain ⟨k0, k1, k2, k3, k4, k5⟩ := (unhide B).six
  go_wp2_with fail
  refine (unhide HC5 _).mono ?_
  rintro e wa5 ⟨rfl, hx⟩
  replace B := hide (((unhide B).ext hx).alloc (.cells #[.int .i64 (U2.1).1, .int .i64 (U2.1).2] 23))
  replace X := hide (((unhide X).trans hx).alloc (.cells #[.int .i64 (U2.1).1, .int .i64 (U2.1).2] 23))
  replace D0 := hide (((unhide D0).ext hx).alloc (.cells #[.int .i64 (U2.1).1, .int .i64 (U2.1).2] 23))
  replace D1 := hide (((unhide D1).ext hx).alloc (.cells #[.int .i64 (U2.1).1, .int .i64 (U2.1).2] 23))
  replace D2 := hide (((unhide D2).ext hx).alloc (.cells #[.int .i64 (U2.1).1, .int .i64 (U2.1).2] 23))
  replace D3 := hide (((unhide D3).ext hx).alloc (.cells #[.int .i64 (U2.1).1, .int .i64 (U2.1).2] 23))
  replace D4 := hide (((unhide D4).ext hx).alloc (.cells #[.int .i64 (U2.1).1, .int .i64 (U2.1).2] 23))
  have D5 := hide (Blk.new wa5 #[.int .i64 (U2.1).1, .int .i64 (U2.1).2] 23)
  clear hx k0 k1 k2 k3 k4 k5 HC5
  go_upto_region 9 with fail
  generalize wa5.alloc (.cells #[.int .i64 (U2.1).1, .int .i64 (U2.1).2] 23) = wb5 at B X D0 D1 D2 D3 D4 D5 ⊢
  generalize wa5.heap.size = r5 at *
  obtain ⟨k0, k1, k2, k3, k4, k5⟩ := (unhide B).six
  go_wp2_with fail
  refine (unhide HC6 _).mono ?_
  rintro e wa6 ⟨rfl, hx⟩
  replace B := hide (((unhide B).ext hx).alloc (.cells #[.int .i64 (U3.1).1, .int .i64 (U3.1).2] 23))
  replace X := hide (((unhide X).trans hx).alloc (.cells #[.int .i64 (U3.1).1, .int .i64 (U3.1).2] 23))
  replace D0 := hide (((unhide D0).ext hx).alloc (.cells #[.int .i64 (U3.1).1, .int .i64 (U3.1).2] 23))
  replace D1 := hide (((unhide D1).ext hx).alloc (.cells #[.int .i64 (U3.1).1, .int .i64 (U3.1).2] 23))
  replace D2 := hide (((unhide D2).ext hx).alloc (.cells #[.int .i64 (U3.1).1, .int .i64 (U3.1).2] 23))
  replace D3 := hide (((unhide D3).ext hx).alloc (.cells #[.int .i64 (U3.1).1, .int .i64 (U3.1).2] 23))
  replace D4 := hide (((unhide D4).ext hx).alloc (.cells #[.int .i64 (U3.1).1, .int .i64 (U3.1).2] 23))
  replace D5 := hide (((unhide D5).ext hx).alloc (.cells #[.int .i64 (U3.1).1, .int .i64 (U3.1).2] 23))
  have D6 := hide (Blk.new wa6 #[.int .i64 (U3.1).1, .int .i64 (U3.1).2] 23)
  clear hx k0 k1 k2 k3 k4 k5 HC6
  go_upto_region 10 with fail
  generalize wa6.alloc (.cells #[.int .i64 (U3.1).1, .int .i64 (U3.1).2] 23) = wb6 at B X D0 D1 D2 D3 D4 D5 D6 ⊢
  generalize wa6.heap.size = r6 at *
  obtain ⟨k0, k1, k2, k3, k4, k5⟩ := (unhide B).six
  go_wp2_with fail
  refine (unhide HC7 _).mono ?_
  rintro e wa7 ⟨rfl, hx⟩
  replace B := hide (((unhide B).ext hx).alloc (.cells #[.int .i64 (U3.1).1, .int .i64 (U3.1).2] 23))
  replace X := hide (((unhide X).trans hx).alloc (.cells #[.int .i64 (U3.1).1, .int .i64 (U3.1).2] 23))
  replace D0 := hide (((unhide D0).ext hx).alloc (.cells #[.int .i64 (U3.1).1, .int .i64 (U3.1).2] 23))
  replace D1 := hide (((unhide D1).ext hx).alloc (.cells #[.int .i64 (U3.1).1, .int .i64 (U3.1).2] 23))
  replace D2 := hide (((unhide D2).ext hx).alloc (.cells #[.int .i64 (U3.1).1, .int .i64 (U3.1).2] 23))
  replace D3 := hide (((unhide D3).ext hx).alloc (.cells #[.int .i64 (U3.1).1, .int .i64 (U3.1).2] 23))
  replace D4 := hide (((unhide D4).ext hx).alloc (.cells #[.int .i64 (U3.1).1, .int .i64 (U3.1).2] 23))
  replace D5 := hide (((unhide D5).ext hx).alloc (.cells #[.int .i64 (U3.1).1, .int .i64 (U3.1).2] 23))
  replace D6 := hide (((unhide D6).ext hx).alloc (.cells #[.int .i64 (U3.1).1, .int .i64 (U3.1).2] 23))
  have D7 := hide (Blk.new wa7 #[.int .i64 (U3.1).1, .int .i64 (U3.1).2] 23)
  clear hx k0 k1 k2 k3 k4 k5 HC7
  go_upto_region 11 with fail
  generalize wa7.alloc (.cells #[.int .i64 (U3.1).1, .int .i64 (U3.1).2] 23) = wb7 at B X D0 D1 D2 D3 D4 D5 D6 D7 ⊢
  generalize wa7.heap.size = r7 at *
  obtain ⟨p0, q0⟩ := (unhide D0).two
  obtain ⟨p1, q1⟩ := (unhide D1).two
  obtain ⟨p2, q2⟩ := (unhide D2).two
  obtain ⟨p3, q3⟩ := (unhide D3).two
  obtain ⟨p4, q4⟩ := (unhide D4).two
  obtain ⟨p5, q5⟩ := (unhide D5).two
  obtain ⟨p6, q6⟩ := (unhide D6).two
  obtain ⟨p7, q7⟩ := (unhide D7).two
  go_wp2
  go_ret
  exact ⟨rfl, unhide X⟩

section
variable {H : Type} {enc : TypeId × Value → H}
theorem array6 {α : Type} {cs : Array α} (h : cs.size = 6) : ∃ c0 c1 c2 c3 c4 c5, cs = #[c0, c1, c2, c3, c4, c5] := by
  obtain ⟨l⟩ := cs
  match l, h with
  | [c0, c1, c2, c3, c4, c5], _ => exact ⟨c0, c1, c2, c3, c4, c5, rfl⟩
set_option maxRecDepth 100000 in
theorem open_three {W : World} {base : Nat} {v : Value} {d : DataW H} {p : List MemPlace} (hv : Value.okWide Try.prog W .any base 36 v) (h : DataW.Trod enc Try.prog W 0 (fun _ => true) true 36 v d p) :
    ∃ a c e : Ty, v = .agg #[.int .i64 a.1, .int .i64 a.2, .int .i64 c.1, .int .i64 c.2, .int .i64 e.1, .int .i64 e.2] := by
  obtain ⟨cs, rfl, hsz⟩ := okWide_struct Try.underlying36 hv
  rw [show Try.prog.cellsOf 36 = 6 by kernel_rfl] at hsz
  obtain ⟨c0, c1, c2, c3, c4, c5, rfl⟩ := array6 hsz
  obtain ⟨fuel, hf⟩ := h
  have hc : Try.prog.cellsOf 23 = 2 := by kernel_rfl
  obtain ⟨y0, y1, y2, n, hx, hlen, h0, h1, h2⟩ := Deep.trod_struct3 Try.underlying36 hf
  simp only [hc] at h0 h1 h2
  have t0 : DataW.trod enc Try.prog W 0 (fun _ => true) true n 23 [c0, c1] = some y0 := h0
  have t1 : DataW.trod enc Try.prog W 0 (fun _ => true) true n 23 [c2, c3] = some y1 := h1
  have t2 : DataW.trod enc Try.prog W 0 (fun _ => true) true n 23 [c4, c5] = some y2 := h2
  obtain ⟨a, rfl, rfl⟩ := two_ints (by kernel_rfl) t0
  obtain ⟨b, rfl, rfl⟩ := two_ints (by kernel_rfl) t1
  obtain ⟨e, rfl, rfl⟩ := two_ints (by kernel_rfl) t2
  exact ⟨a, b, e, rfl⟩
end

set_option maxRecDepth 100000 in
theorem kindsOps_owes (H : Type) (enc : TypeId × Value → H) (W : World) (base : Nat) (args : Array Value) (ds : List (DataW H)) (p : List MemPlace) : Owes H enc Try.prog 4 Try.f4 Rows.kindsOperatorsSpec W base args ds p := by
  intro hval hA hsz
  rw [Try.params4] at hA hval hsz
  obtain ⟨v0, vs0, d0, ds0, p0, q0, hargs, rfl, rfl, h0, r0⟩ := trodAll_cons hA
  obtain ⟨v1, vs1, d1, ds1, p1, q1, rfl, rfl, rfl, h1, r1⟩ := trodAll_cons r0
  obtain ⟨rfl, rfl, rfl⟩ := trodAll_nil r1
  obtain rfl : args = #[v0, v1] := by cases args; simp_all
  obtain ⟨s, rfl, rfl, rfl, ws⟩ := open_string Try.underlying9 (hval 0 9 v0 rfl rfl) h0
  obtain ⟨a, c, d, rfl⟩ := open_three (hval 1 36 v1 rfl rfl) h1
  have hpw := kindsOps_any s.data.toList a c d W
  rw [ba_back] at hpw
  exact ⟨⟨rfl, rfl, rfl⟩, hpw⟩

set_option maxRecDepth 100000 in
theorem kindsOps_lifted (os : Os) (started : os.Started) (H : Type) (enc : TypeId × Value → H) :
    ReturnsInHanded {} Try.checked os 4 .any (Rows.kindsOperatorsSpec.pre6 enc Try.prog Try.f4 [] false) (Rows.kindsOperatorsSpec.post enc Try.prog Try.f4 false true false false) :=
  lift_law (C := Try.checked) own laidOut started (by kernel_rfl) Try.func4 (T := 4) rfl Try.underlying4 rfl (by kernel_rfl)
    (ChangeSpec.witness6 (enc := enc) (C := Try.checked) false ⟨#[], #[.string ⟨#[]⟩, .agg #[.int .i64 0, .int .i64 0, .int .i64 0, .int .i64 0, .int .i64 0, .int .i64 0]], []⟩ 8 (by kernel_rfl) (by kernel_rfl) (by kernel_rfl) (by kernel_rfl)) (kindsOps_owes H enc)

theorem kindsOperators_holds : Rows.KindsOperatorsSaid :=
  OpenClaim.holds_of_wide 4 Try.f4 rfl rfl rfl rfl rfl rfl rfl ⟨rfl, rfl, rfl, rfl, rfl⟩ rfl rfl rfl rfl rfl (by kernel_rfl) Try.func4 (by kernel_rfl)
    (of_decide_eq_true (by kernel_rfl)) (by unfold Func.isWrapper; rw [if_neg (of_decide_eq_false (by kernel_rfl))]; exact ⟨rfl, rfl⟩)
    (fun os started H enc _ => kindsOps_lifted os started H enc)
#print axioms kindsOperators_holds
end Go.Proofs.Ytokmplebajgckaa
