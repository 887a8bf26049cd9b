/-
  Proved: PixelRises answers true for all numbers x and y and every k, and turns nothing that was there: a greater number never has lesser bits, 0 has none, One all of them, and the bits of a number of bits are these. No condition but the form's own bound on what is read.
-/
import Derived.Test.YtijkkhnhejadgaaFr
import Derived.Test.YtijkkhnhejadgaaPW
namespace Go.Proofs.Ytijkkhnhejadgaa
open Go.ChangeShapes Go.WideShapes Go.ChangeAt Go.RowKit
open Go.ChangeMaps (open_string shut_string)

set_option maxHeartbeats 2000000 in
theorem rises_a (x y k : Int) (m : Nat) (h1 : 1 ≤ m) (h2 : m ≤ 16) (hk : 1 + k % 16 = (m : Int)) (hk0 : 0 ≤ k) (w : World) (hxy : x < y) :
    Calls Try.prog 8 #[.int .i32 x, .int .i32 y, .int .i64 k] w fun e w' => e = .returned (.bool true) ∧ Ext w w' := by
  have hm := full_pos (k := m) h1 h2
  have ha := bits_bound x (k := m) h2
  have hn := num_bound h1 h2 ha.1 ha.2
  have hb : bitsI x m ≤ bitsI y m := bits_rise h2 (by omega)
  have HH := hide (And.intro (bits_zero m) (And.intro (bits_one m) (bits_num h1 h2 ha.1 ha.2)))
  have hw : (2 : Int) ^ m = fullI m + 1 := by unfold fullI; omega
  go_enter Try.func8, Try.ntmps8
  go_wp2_with fail
  refine (wakes_any w).mono ?_
  rintro e w1 ⟨rfl, hxx⟩
  have X := hide hxx
  clear hxx
  go_wp2_with fail
  refine (Bits_any x m _ h1 h2).mono ?_
  rintro e w2 ⟨rfl, rfl⟩
  go_wp2_with fail
  refine (Bits_any y m _ h1 h2).mono ?_
  rintro e w2 ⟨rfl, rfl⟩
  go_wp2_with fail
  refine (Bits_any 0 m _ h1 h2).mono ?_
  rintro e w2 ⟨rfl, rfl⟩
  rw [(unhide HH).1]
  go_wp2_with fail
  refine (Bits_any 65536 m _ h1 h2).mono ?_
  rintro e w2 ⟨rfl, rfl⟩
  rw [(unhide HH).2.1]
  go_wp2_with fail
  refine (Number_any (bitsI x m) m _ h1 h2 ha.1 ha.2).mono ?_
  rintro e w2 ⟨rfl, rfl⟩
  go_wp2_with fail
  refine (Bits_any (numI (bitsI x m) m) m _ h1 h2).mono ?_
  rintro e w2 ⟨rfl, rfl⟩
  rw [(unhide HH).2.2]
  go_wp2
  go_ret
  exact ⟨by simp, unhide X⟩

set_option maxHeartbeats 2000000 in
theorem rises_b (x y k : Int) (m : Nat) (h1 : 1 ≤ m) (h2 : m ≤ 16) (hk : 1 + k % 16 = (m : Int)) (hk0 : 0 ≤ k) (w : World) (hxy : y < x) :
    Calls Try.prog 8 #[.int .i32 x, .int .i32 y, .int .i64 k] w fun e w' => e = .returned (.bool true) ∧ Ext w w' := by
  have hm := full_pos (k := m) h1 h2
  have ha := bits_bound y (k := m) h2
  have hn := num_bound h1 h2 ha.1 ha.2
  have hb : bitsI y m ≤ bitsI x m := bits_rise h2 (by omega)
  have HH := hide (And.intro (bits_zero m) (And.intro (bits_one m) (bits_num h1 h2 ha.1 ha.2)))
  have hw : (2 : Int) ^ m = fullI m + 1 := by unfold fullI; omega
  go_enter Try.func8, Try.ntmps8
  go_wp2_with fail
  refine (wakes_any w).mono ?_
  rintro e w1 ⟨rfl, hxx⟩
  have X := hide hxx
  clear hxx
  go_wp2_with fail
  refine (Bits_any y m _ h1 h2).mono ?_
  rintro e w2 ⟨rfl, rfl⟩
  go_wp2_with fail
  refine (Bits_any x m _ h1 h2).mono ?_
  rintro e w2 ⟨rfl, rfl⟩
  go_wp2_with fail
  refine (Bits_any 0 m _ h1 h2).mono ?_
  rintro e w2 ⟨rfl, rfl⟩
  rw [(unhide HH).1]
  go_wp2_with fail
  refine (Bits_any 65536 m _ h1 h2).mono ?_
  rintro e w2 ⟨rfl, rfl⟩
  rw [(unhide HH).2.1]
  go_wp2_with fail
  refine (Number_any (bitsI y m) m _ h1 h2 ha.1 ha.2).mono ?_
  rintro e w2 ⟨rfl, rfl⟩
  go_wp2_with fail
  refine (Bits_any (numI (bitsI y m) m) m _ h1 h2).mono ?_
  rintro e w2 ⟨rfl, rfl⟩
  rw [(unhide HH).2.2]
  go_wp2
  go_ret
  exact ⟨by simp, unhide X⟩

set_option maxHeartbeats 2000000 in
theorem rises_e (x k : Int) (m : Nat) (h1 : 1 ≤ m) (h2 : m ≤ 16) (hk : 1 + k % 16 = (m : Int)) (hk0 : 0 ≤ k) (w : World)  :
    Calls Try.prog 8 #[.int .i32 x, .int .i32 x, .int .i64 k] w fun e w' => e = .returned (.bool true) ∧ Ext w w' := by
  have hm := full_pos (k := m) h1 h2
  have ha := bits_bound x (k := m) h2
  have hn := num_bound h1 h2 ha.1 ha.2
  have hb : bitsI x m ≤ bitsI x m := bits_rise h2 (by omega)
  have HH := hide (And.intro (bits_zero m) (And.intro (bits_one m) (bits_num h1 h2 ha.1 ha.2)))
  have hw : (2 : Int) ^ m = fullI m + 1 := by unfold fullI; omega
  go_enter Try.func8, Try.ntmps8
  go_wp2_with fail
  refine (wakes_any w).mono ?_
  rintro e w1 ⟨rfl, hxx⟩
  have X := hide hxx
  clear hxx
  go_wp2_with fail
  refine (Bits_any x m _ h1 h2).mono ?_
  rintro e w2 ⟨rfl, rfl⟩
  go_wp2_with fail
  refine (Bits_any x m _ h1 h2).mono ?_
  rintro e w2 ⟨rfl, rfl⟩
  go_wp2_with fail
  refine (Bits_any 0 m _ h1 h2).mono ?_
  rintro e w2 ⟨rfl, rfl⟩
  rw [(unhide HH).1]
  go_wp2_with fail
  refine (Bits_any 65536 m _ h1 h2).mono ?_
  rintro e w2 ⟨rfl, rfl⟩
  rw [(unhide HH).2.1]
  go_wp2_with fail
  refine (Number_any (bitsI x m) m _ h1 h2 ha.1 ha.2).mono ?_
  rintro e w2 ⟨rfl, rfl⟩
  go_wp2_with fail
  refine (Bits_any (numI (bitsI x m) m) m _ h1 h2).mono ?_
  rintro e w2 ⟨rfl, rfl⟩
  rw [(unhide HH).2.2]
  go_wp2
  go_ret
  exact ⟨by simp, unhide X⟩

set_option maxHeartbeats 2000000 in
theorem rises_c (x y k : Int) (hk0 : k < 0) (w : World) (hxy : x < y) :
    Calls Try.prog 8 #[.int .i32 x, .int .i32 y, .int .i64 k] w fun e w' => e = .returned (.bool true) ∧ Ext w w' := by
  have h1 : 1 ≤ 1 := by omega
  have h2 : 1 ≤ 16 := by omega
  have hm := full_pos (k := 1) h1 h2
  have ha := bits_bound x (k := 1) h2
  have hn := num_bound h1 h2 ha.1 ha.2
  have hb : bitsI x 1 ≤ bitsI y 1 := bits_rise h2 (by omega)
  have HH := hide (And.intro (bits_zero 1) (And.intro (bits_one 1) (bits_num h1 h2 ha.1 ha.2)))
  have hw : (2 : Int) ^ 1 = fullI 1 + 1 := by unfold fullI; omega
  go_enter Try.func8, Try.ntmps8
  go_wp2_with fail
  refine (wakes_any w).mono ?_
  rintro e w1 ⟨rfl, hxx⟩
  have X := hide hxx
  clear hxx
  go_wp2_with fail
  refine (Bits_any x 1 _ h1 h2).mono ?_
  rintro e w2 ⟨rfl, rfl⟩
  go_wp2_with fail
  refine (Bits_any y 1 _ h1 h2).mono ?_
  rintro e w2 ⟨rfl, rfl⟩
  go_wp2_with fail
  refine (Bits_any 0 1 _ h1 h2).mono ?_
  rintro e w2 ⟨rfl, rfl⟩
  rw [(unhide HH).1]
  go_wp2_with fail
  refine (Bits_any 65536 1 _ h1 h2).mono ?_
  rintro e w2 ⟨rfl, rfl⟩
  rw [(unhide HH).2.1]
  go_wp2_with fail
  refine (Number_any (bitsI x 1) 1 _ h1 h2 ha.1 ha.2).mono ?_
  rintro e w2 ⟨rfl, rfl⟩
  go_wp2_with fail
  refine (Bits_any (numI (bitsI x 1) 1) 1 _ h1 h2).mono ?_
  rintro e w2 ⟨rfl, rfl⟩
  rw [(unhide HH).2.2]
  go_wp2
  go_ret
  exact ⟨by simp, unhide X⟩

set_option maxHeartbeats 2000000 in
theorem rises_d (x y k : Int) (hk0 : k < 0) (w : World) (hxy : y < x) :
    Calls Try.prog 8 #[.int .i32 x, .int .i32 y, .int .i64 k] w fun e w' => e = .returned (.bool true) ∧ Ext w w' := by
  have h1 : 1 ≤ 1 := by omega
  have h2 : 1 ≤ 16 := by omega
  have hm := full_pos (k := 1) h1 h2
  have ha := bits_bound y (k := 1) h2
  have hn := num_bound h1 h2 ha.1 ha.2
  have hb : bitsI y 1 ≤ bitsI x 1 := bits_rise h2 (by omega)
  have HH := hide (And.intro (bits_zero 1) (And.intro (bits_one 1) (bits_num h1 h2 ha.1 ha.2)))
  have hw : (2 : Int) ^ 1 = fullI 1 + 1 := by unfold fullI; omega
  go_enter Try.func8, Try.ntmps8
  go_wp2_with fail
  refine (wakes_any w).mono ?_
  rintro e w1 ⟨rfl, hxx⟩
  have X := hide hxx
  clear hxx
  go_wp2_with fail
  refine (Bits_any y 1 _ h1 h2).mono ?_
  rintro e w2 ⟨rfl, rfl⟩
  go_wp2_with fail
  refine (Bits_any x 1 _ h1 h2).mono ?_
  rintro e w2 ⟨rfl, rfl⟩
  go_wp2_with fail
  refine (Bits_any 0 1 _ h1 h2).mono ?_
  rintro e w2 ⟨rfl, rfl⟩
  rw [(unhide HH).1]
  go_wp2_with fail
  refine (Bits_any 65536 1 _ h1 h2).mono ?_
  rintro e w2 ⟨rfl, rfl⟩
  rw [(unhide HH).2.1]
  go_wp2_with fail
  refine (Number_any (bitsI y 1) 1 _ h1 h2 ha.1 ha.2).mono ?_
  rintro e w2 ⟨rfl, rfl⟩
  go_wp2_with fail
  refine (Bits_any (numI (bitsI y 1) 1) 1 _ h1 h2).mono ?_
  rintro e w2 ⟨rfl, rfl⟩
  rw [(unhide HH).2.2]
  go_wp2
  go_ret
  exact ⟨by simp, unhide X⟩

set_option maxHeartbeats 2000000 in
theorem rises_f (x k : Int) (hk0 : k < 0) (w : World)  :
    Calls Try.prog 8 #[.int .i32 x, .int .i32 x, .int .i64 k] w fun e w' => e = .returned (.bool true) ∧ Ext w w' := by
  have h1 : 1 ≤ 1 := by omega
  have h2 : 1 ≤ 16 := by omega
  have hm := full_pos (k := 1) h1 h2
  have ha := bits_bound x (k := 1) h2
  have hn := num_bound h1 h2 ha.1 ha.2
  have hb : bitsI x 1 ≤ bitsI x 1 := bits_rise h2 (by omega)
  have HH := hide (And.intro (bits_zero 1) (And.intro (bits_one 1) (bits_num h1 h2 ha.1 ha.2)))
  have hw : (2 : Int) ^ 1 = fullI 1 + 1 := by unfold fullI; omega
  go_enter Try.func8, Try.ntmps8
  go_wp2_with fail
  refine (wakes_any w).mono ?_
  rintro e w1 ⟨rfl, hxx⟩
  have X := hide hxx
  clear hxx
  go_wp2_with fail
  refine (Bits_any x 1 _ h1 h2).mono ?_
  rintro e w2 ⟨rfl, rfl⟩
  go_wp2_with fail
  refine (Bits_any x 1 _ h1 h2).mono ?_
  rintro e w2 ⟨rfl, rfl⟩
  go_wp2_with fail
  refine (Bits_any 0 1 _ h1 h2).mono ?_
  rintro e w2 ⟨rfl, rfl⟩
  rw [(unhide HH).1]
  go_wp2_with fail
  refine (Bits_any 65536 1 _ h1 h2).mono ?_
  rintro e w2 ⟨rfl, rfl⟩
  rw [(unhide HH).2.1]
  go_wp2_with fail
  refine (Number_any (bitsI x 1) 1 _ h1 h2 ha.1 ha.2).mono ?_
  rintro e w2 ⟨rfl, rfl⟩
  go_wp2_with fail
  refine (Bits_any (numI (bitsI x 1) 1) 1 _ h1 h2).mono ?_
  rintro e w2 ⟨rfl, rfl⟩
  rw [(unhide HH).2.2]
  go_wp2
  go_ret
  exact ⟨by simp, unhide X⟩

theorem prises_owes (H : Type) (enc : TypeId × Value → H) (W : World) (base : Nat) (args : Array Value) (ds : List (DataW H)) (p : List MemPlace) : Owes H enc Try.prog 8 Try.f8 Rows.pixelRisesSpec W base args ds p := by
  intro hval hA hsz
  rw [Try.params8] at hA hval hsz
  obtain ⟨v0, vs0, d0, ds0, p0, q0, hargs, rfl, rfl, h0, r0⟩ := trodAll_cons hA
  obtain ⟨v1, vs1, d1, ds1, p1, q1, rfl, rfl, rfl, h1, r1⟩ := trodAll_cons r0
  obtain ⟨v2, vs2, d2, ds2, p2, q2, rfl, rfl, rfl, h2, r2⟩ := trodAll_cons r1
  obtain ⟨rfl, rfl, rfl⟩ := trodAll_nil r2
  obtain rfl : args = #[v0, v1, v2] := by cases args; simp_all
  obtain ⟨x, rfl, rfl, rfl, wx⟩ := open_int Try.underlying22 (hval 0 22 v0 rfl rfl) h0
  obtain ⟨y, rfl, rfl, rfl, wy⟩ := open_int Try.underlying22 (hval 1 22 v1 rfl rfl) h1
  obtain ⟨k, rfl, rfl, rfl, wk⟩ := open_int Try.underlying3 (hval 2 3 v2 rfl rfl) h2
  refine ⟨⟨rfl, rfl, rfl⟩, ?_⟩
  by_cases hk : 0 ≤ k
  · obtain ⟨m, hm⟩ := Int.eq_ofNat_of_zero_le (show 0 ≤ 1 + k % 16 by omega)
    rcases (by omega : x < y ∨ y < x ∨ x = y) with hxy | hxy | rfl
    · exact rises_a x y k m (by omega) (by omega) hm hk W hxy
    · exact rises_b x y k m (by omega) (by omega) hm hk W hxy
    · exact rises_e x k m (by omega) (by omega) hm hk W
  · rcases (by omega : x < y ∨ y < x ∨ x = y) with hxy | hxy | rfl
    · exact rises_c x y k (by omega) W hxy
    · exact rises_d x y k (by omega) W hxy
    · exact rises_f x k (by omega) W

set_option maxRecDepth 100000 in
theorem prises_lifted (os : Os) (started : os.Started) (H : Type) (enc : TypeId × Value → H) :
    ReturnsInHanded {} Try.checked os 8 .any (Rows.pixelRisesSpec.pre6 enc Try.prog Try.f8 [] false) (Rows.pixelRisesSpec.post enc Try.prog Try.f8 false true false false) :=
  lift_law (C := Try.checked) own laidOut started (by kernel_rfl) Try.func8 (T := 4) rfl Try.underlying4 rfl (by kernel_rfl)
    (ChangeSpec.witness6 (enc := enc) (C := Try.checked) false ⟨#[], #[.int .i32 0, .int .i32 0, .int .i64 0], []⟩ 8 (by kernel_rfl) (by kernel_rfl) (by kernel_rfl) (by kernel_rfl)) (prises_owes H enc)

theorem pixelRises_holds : Rows.PixelRisesSaid :=
  OpenClaim.holds_of_wide 8 Try.f8 rfl rfl rfl rfl rfl rfl rfl ⟨rfl, rfl, rfl, rfl, rfl⟩ rfl rfl rfl rfl rfl (by kernel_rfl) Try.func8 (by kernel_rfl)
    (of_decide_eq_true (by kernel_rfl)) (by unfold Func.isWrapper; rw [if_neg (of_decide_eq_false (by kernel_rfl))]; exact ⟨rfl, rfl⟩)
    (fun os started H enc _ => prises_lifted os started H enc)
#print axioms pixelRises_holds
end Go.Proofs.Ytijkkhnhejadgaa
