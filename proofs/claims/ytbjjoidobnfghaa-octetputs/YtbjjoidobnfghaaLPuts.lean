/-
  Proved: OctetPuts answers true for all bytes b and every number x, and turns nothing that was there: Put16 and Put32 answer the bytes of b and behind them the two or four bytes of x, the lowest first, and b stays as it was. No condition but the form's own bound on what is read.
-/
import Derived.Test.YtbjjoidobnfghaaFr
import Derived.Test.YtbjjoidobnfghaaW5
import Derived.Test.YtbjjoidobnfghaaW7
namespace Go.Proofs.Ytbjjoidobnfghaa
open Go.ChangeShapes Go.WideShapes Go.ChangeAt Go.RowKit
open Go.ChangeMaps (open_string shut_string)

set_option maxHeartbeats 1000000 in
theorem puts_walk (v : Value) (bs : List Int) (x : Int) (w : World) (hr : Row .u8 w v bs) (hm : bs.length ≤ 140737488351232) (hx0 : 0 ≤ x) (hx1 : x < 4294967296) :
    Calls Try.prog 3 #[v, .int .u32 x] w fun e w' => e = .returned (.bool true) ∧ Below w.heap.size w w' := by
  have HR := hide hr
  obtain ⟨ao, cap, rfl, _⟩ := hr.shape
  clear hr
  go_enter Try.func3, Try.ntmps3
  go_wp2_with fail
  refine (wakes_any w).mono ?_
  rintro e w1 ⟨rfl, hb1⟩
  have e1 : Hid (Ext w w1) := hb1
  have hR1 := hide ((unhide HR).ext (unhide e1))
  clear hb1 HR
  go_wp2_with fail
  refine (both_any _ _ bs [] _ (unhide hR1) (Row.nil _ _) (by simp; omega)).mono ?_
  rintro e w2 ⟨aoc, capc, rfl, hown2, hb2⟩
  rw [List.append_nil] at hown2
  have e2 : Hid (Ext w1 w2) := hb2
  have hC := hide hown2.row
  clear hown2 hb2
  go_wp2_with fail
  refine (put16_any _ bs (x % 65536) _ ((unhide hR1).ext (unhide e2)) (by omega) (by omega) (by omega)).mono ?_
  rintro e w3 ⟨ao3, cap3, rfl, hown3, hb3⟩
  rw [low_mod16] at hown3
  have e3 : Hid (Ext w2 w3) := hb3
  have hP := hide hown3.row
  clear hown3 hb3
  go_wp2_with fail
  refine (put32_any _ bs x _ (((unhide hR1).ext (unhide e2)).ext (unhide e3)) (by omega) (by omega) (by omega)).mono ?_
  rintro e w4 ⟨ao4, cap4, rfl, hown4, hb4⟩
  have e4 : Hid (Ext w3 w4) := hb4
  have hQ := hide hown4.row
  clear hown4 hb4
  go_wp2_with fail
  refine (low_any x 2 _ hx0 hx1 (by omega)).mono ?_
  rintro e w5 ⟨ao5, cap5, rfl, hown5, hb5⟩
  have e5 : Hid (Ext w4 w5) := hb5
  have hL := hide hown5.row
  clear hown5 hb5
  have l2 := low_length x 2
  have l4 := low_length x 4
  go_wp2_with fail
  refine (both_any _ _ bs (low x 2) _ ((unhide hC).ext ((unhide e3).trans ((unhide e4).trans (unhide e5)))) (unhide hL) (by omega)).mono ?_
  rintro e w6 ⟨ao6, cap6, rfl, hown6, hb6⟩
  have e6 : Hid (Ext w5 w6) := hb6
  have hM := hide hown6.row
  clear hown6 hb6
  go_wp2_with fail
  refine (same_any _ _ (bs ++ low x 2) (bs ++ low x 2) _ ((unhide hP).ext ((unhide e4).trans ((unhide e5).trans (unhide e6)))) (unhide hM) (by simp; omega)).mono ?_
  rintro e w7 ⟨rfl, n7, rfl⟩
  rw [decide_eq_true rfl]
  go_wp2_with fail
  refine (low_any x 4 _ hx0 hx1 (by omega)).mono ?_
  rintro e w8 ⟨ao8, cap8, rfl, hown8, hb8⟩
  have e8 : Hid (Ext w6 w8) := ((Ext.refl w6).drewN n7).trans hb8
  have hN := hide hown8.row
  clear hown8 hb8
  go_wp2_with fail
  refine (both_any _ _ bs (low x 4) _ ((unhide hC).ext ((unhide e3).trans ((unhide e4).trans ((unhide e5).trans ((unhide e6).trans (unhide e8)))))) (unhide hN) (by omega)).mono ?_
  rintro e w9 ⟨ao9, cap9, rfl, hown9, hb9⟩
  have e9 : Hid (Ext w8 w9) := hb9
  have hO := hide hown9.row
  clear hown9 hb9
  go_wp2_with fail
  refine (same_any _ _ (bs ++ low x 4) (bs ++ low x 4) _ ((unhide hQ).ext ((unhide e5).trans ((unhide e6).trans ((unhide e8).trans (unhide e9))))) (unhide hO) (by simp; omega)).mono ?_
  rintro e w10 ⟨rfl, n10, rfl⟩
  rw [decide_eq_true rfl]
  have e10 : Hid (Ext w2 w9) := (unhide e3).trans ((unhide e4).trans ((unhide e5).trans ((unhide e6).trans ((unhide e8).trans (unhide e9)))))
  go_wp2_with fail
  refine (same_any _ _ bs bs _ ((unhide hR1).ext (((unhide e2).trans (unhide e10)).drewN _)) ((unhide hC).ext ((unhide e10).drewN _)) (by omega)).mono ?_
  rintro e w11 ⟨rfl, n11, rfl⟩
  rw [decide_eq_true rfl]
  go_wp2
  go_ret
  exact ⟨rfl, ((unhide e1).trans ((unhide e2).trans (unhide e10))).drewN _⟩


theorem puts_owes (H : Type) (enc : TypeId × Value → H) (W : World) (base : Nat) (args : Array Value) (ds : List (DataW H)) (p : List MemPlace) : Owes H enc Try.prog 3 Try.f3 Rows.octetPutsSpec W base args ds p := by
  intro hval hA hsz
  rw [Try.params3] at hA hval hsz
  obtain ⟨v0, vs0, d0, ds0, p0, q0, hargs, rfl, rfl, h0, r0⟩ := trodAll_cons hA
  obtain ⟨v1, vs1, d1, ds1, p1, q1, rfl, rfl, rfl, h1, r1⟩ := trodAll_cons r0
  obtain ⟨rfl, rfl, rfl⟩ := trodAll_nil r1
  obtain rfl : args = #[v0, v1] := by cases args; simp_all
  obtain ⟨xs, hrow, hwf, hlen⟩ := open_row (j := 0) Try.underlying22 Try.underlying5 (by kernel_rfl) (hval 0 22 v0 rfl rfl) h0 hsz rfl rfl
  obtain ⟨a1, rfl, rfl, rfl, w1⟩ := open_int Try.underlying23 (hval 1 23 v1 rfl rfl) h1
  have hx := bounds_u32 w1
  have hb : Try.prog.bytesOf 5 = 1 := by kernel_rfl
  rw [hb] at hlen
  exact ⟨⟨rfl, rfl, rfl⟩, puts_walk v0 xs a1 W hrow (by omega) (by omega) (by omega)⟩

set_option maxRecDepth 100000 in
theorem puts_lifted (os : Os) (started : os.Started) (H : Type) (enc : TypeId × Value → H) :
    ReturnsInHanded {} Try.checked os 3 .any (Rows.octetPutsSpec.pre6 enc Try.prog Try.f3 [] false) (Rows.octetPutsSpec.post enc Try.prog Try.f3 false true false false) :=
  lift_law (C := Try.checked) own laidOut started (by kernel_rfl) Try.func3 (T := 4) rfl Try.underlying4 rfl (by kernel_rfl)
    (ChangeSpec.witness6 (enc := enc) (C := Try.checked) false ⟨#[], #[.slice none 0 0, .int .u32 0], []⟩ 8 (by kernel_rfl) (by kernel_rfl) (by kernel_rfl) (by kernel_rfl)) (puts_owes H enc)

theorem octetPuts_holds : Rows.OctetPutsSaid :=
  OpenClaim.holds_of_wide 3 Try.f3 rfl rfl rfl rfl rfl rfl rfl ⟨rfl, rfl, rfl, rfl, rfl⟩ rfl rfl rfl rfl rfl (by kernel_rfl) Try.func3 (by kernel_rfl)
    (of_decide_eq_true (by kernel_rfl)) (by unfold Func.isWrapper; rw [if_neg (of_decide_eq_false (by kernel_rfl))]; exact ⟨rfl, rfl⟩)
    (fun os started H enc _ => puts_lifted os started H enc)
#print axioms octetPuts_holds
end Go.Proofs.Ytbjjoidobnfghaa
