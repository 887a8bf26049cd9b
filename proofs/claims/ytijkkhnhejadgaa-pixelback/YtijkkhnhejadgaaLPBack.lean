/-
  Proved: PixelBack answers true for every format and all bytes, and turns nothing that was there: what Row told is packed by Lay as the same bytes, and Row of these tells the same. No condition but the form's own bound on what is read.
-/
import Derived.Test.YtijkkhnhejadgaaPX
import Derived.Test.YtijkkhnhejadgaaPO
namespace Go.Proofs.Ytijkkhnhejadgaa
open Go.ChangeShapes Go.WideShapes Go.ChangeAt Go.RowKit
open Go.ChangeMaps (open_string shut_string)

theorem rowL_length (f : Nat) (xs : List Int) (n : Nat) : (rowL f xs n).length = n := by simp [rowL]

/-- The four cells of vector k. -/
theorem vrow_cells {w : World} {g n cap : Nat} {cs : List (Nat → Int)} (h : VRow w (.slice (some ⟨g, 0, none⟩) n cap) cs) (k : Nat) (hk : k < cs.length) :
    w.cell? ⟨g, k * 4, none⟩ = some (.int .i32 (cs.getD k nul 0)) ∧ w.cell? ⟨g, k * 4 + 1, none⟩ = some (.int .i32 (cs.getD k nul 1)) ∧ w.cell? ⟨g, k * 4 + 2, none⟩ = some (.int .i32 (cs.getD k nul 2)) ∧ w.cell? ⟨g, k * 4 + 3, none⟩ = some (.int .i32 (cs.getD k nul 3)) := by
  obtain ⟨b, off, e, hc⟩ := h.at k hk
  cases e
  have h0 := hc k 0 hk (by omega)
  have h1 := hc k 1 hk (by omega)
  have h2 := hc k 2 hk (by omega)
  have h3 := hc k 3 hk (by omega)
  rw [Nat.zero_add] at h0 h1 h2 h3
  exact ⟨h0, h1, h2, h3⟩

theorem lay_back (f : Nat) (g n : Nat) (xs : List Int) (w : World) (h1 : 1 ≤ f) (h7 : f ≤ 7) (hB : Byt xs) (hn : n * siz f = xs.length) (hm : n ≤ 5000) (hr : VRow w (.slice (some ⟨g, 0, none⟩) n n) (rowL f xs n)) :
    Calls Try.prog 22 #[.int .i64 (f : Int), .slice (some ⟨g, 0, none⟩) n n] w fun e w' =>
      ∃ ao2 cap2, e = .returned (.tuple #[.slice ao2 xs.length cap2, .int .i64 0]) ∧ Row .u8 w' (.slice ao2 xs.length cap2) xs ∧ Ext w w' := by
  have hl := rowL_length f xs n
  have h := lay_any f (some ⟨g, 0, none⟩) n (rowL f xs n) w h1 h7 (by rw [hl]; exact hr) (by omega)
  rw [hl, hn, lay_row_all f xs n h1 h7 hB hn] at h
  exact h

set_option maxHeartbeats 1000000 in
theorem back_long (f : Int) (ao : Option Addr) (n cap : Nat) (w : World) (hn : 5000 < n) :
    Calls Try.prog 7 #[.int .i64 f, .slice ao n cap] w fun e w' => e = .returned (.bool true) ∧ Ext w w' := by
  have hi : (5000 : Int) < (n : Int) := by omega
  go_enter Try.func7, Try.ntmps7
  go_wp2_with fail
  refine (wakes_any w).mono ?_
  rintro e w1 ⟨rfl, hx⟩
  have X := hide hx
  clear hx
  go_wp2
  go_ret
  exact ⟨rfl, unhide X⟩

set_option maxHeartbeats 1000000 in
theorem back_bad (f : Int) (ao : Option Addr) (n cap : Nat) (w : World) (h : f < 1 ∨ 7 < f) (hn : n ≤ 5000) :
    Calls Try.prog 7 #[.int .i64 f, .slice ao n cap] w fun e w' => e = .returned (.bool true) ∧ Ext w w' := by
  have hi : ¬ (5000 : Int) < (n : Int) := by omega
  go_enter Try.func7, Try.ntmps7
  go_wp2_with fail
  refine (wakes_any w).mono ?_
  rintro e w1 ⟨rfl, hx⟩
  have X := hide hx
  clear hx
  go_wp2_with fail
  refine (row_bad f _ _ h).mono ?_
  rintro e w2 ⟨rfl, hx⟩
  have X2 := hide ((unhide X).trans hx)
  clear hx
  go_wp2
  go_ret
  exact ⟨rfl, unhide X2⟩

set_option maxHeartbeats 1000000 in
theorem back_off (f : Nat) (ao : Option Addr) (n cap : Nat) (w : World) (h1 : 1 ≤ f) (h7 : f ≤ 7) (hn : n ≤ 5000) (hs : n % siz f ≠ 0) :
    Calls Try.prog 7 #[.int .i64 (f : Int), .slice ao n cap] w fun e w' => e = .returned (.bool true) ∧ Ext w w' := by
  have hi : ¬ (5000 : Int) < (n : Int) := by omega
  have HS := hide hs
  clear hs
  go_enter Try.func7, Try.ntmps7
  go_wp2_with fail
  refine (wakes_any w).mono ?_
  rintro e w1 ⟨rfl, hx⟩
  have X := hide hx
  clear hx
  go_wp2_with fail
  refine (row_off f ao n cap _ h1 h7 (unhide HS) (by omega)).mono ?_
  rintro e w2 ⟨rfl, hx⟩
  have X2 := hide ((unhide X).trans hx)
  clear hx
  go_wp2
  go_ret
  exact ⟨rfl, unhide X2⟩

set_option maxHeartbeats 4000000 in
theorem back_walk (f : Nat) (ao : Option Addr) (cap : Nat) (xs : List Int) (w : World) (h1 : 1 ≤ f) (h7 : f ≤ 7) (hr : Row .u8 w (.slice ao xs.length cap) xs) (hB : Byt xs) (hn : xs.length ≤ 5000) (hs : xs.length % siz f = 0) :
    Calls Try.prog 7 #[.int .i64 (f : Int), .slice ao xs.length cap] w fun e w' => e = .returned (.bool true) ∧ Ext w w' := by
  have hi : ¬ (5000 : Int) < (xs.length : Int) := by omega
  have hE := eqV
  have HS := hide hs
  have HR := hide hr
  have s3 := siz_three h1 h7
  obtain ⟨n, hnn⟩ : ∃ n, n = xs.length / siz f := ⟨_, rfl⟩
  have HN := hide hnn
  have HT : Hid (n * siz f = xs.length) := by
    show _ = _
    rw [hnn]
    exact Nat.div_mul_cancel (Nat.dvd_of_mod_eq_zero hs)
  have hnm : n ≤ 5000 := by rw [hnn]; exact Nat.le_trans (Nat.div_le_self _ _) hn
  have hnI : (n : Int) ≤ 5000 := by omega
  clear hs hr s3 hnn
  go_enter Try.func7, Try.ntmps7
  go_wp2_with fail
  refine (wakes_any w).mono ?_
  rintro e w1 ⟨rfl, hx⟩
  have X1 := hide hx
  clear hx
  go_wp2_with fail
  refine (row_any f ao cap xs _ h1 h7 ((unhide HR).ext (unhide X1)) hB (unhide HS) (by omega)).mono ?_
  rintro e w2 ⟨g, rfl, hv, hx⟩
  rw [← unhide HN] at hv ⊢
  have D2 := hide (And.intro hv ((unhide X1).trans hx))
  clear hv hx X1
  go_wp2_with fail
  refine (lay_back f g n xs _ h1 h7 hB (unhide HT) hnm (unhide D2).1).mono ?_
  rintro e w3 ⟨ao3, cap3, rfl, hr3, hx⟩
  have D3 := hide (And.intro hr3 (And.intro ((unhide D2).1.ext hx) ((unhide D2).2.trans hx)))
  clear hr3 hx D2
  go_wp2_with fail
  refine (row_any f ao3 cap3 xs _ h1 h7 (unhide D3).1 hB (unhide HS) (by omega)).mono ?_
  rintro e w4 ⟨g2, rfl, hv, hx⟩
  rw [← unhide HN] at hv ⊢
  have D4 := hide (And.intro hv (And.intro ((unhide D3).1.ext hx) (And.intro ((unhide D3).2.1.ext hx) ((unhide D3).2.2.trans hx))))
  clear hv hx D3
  go_wp2_with fail
  refine (equal_same ao ao3 cap cap3 xs _ ((unhide HR).ext (unhide D4).2.2.2) (unhide D4).2.1).mono ?_
  rintro e w5 ⟨rfl, rfl⟩
  go_wp2
  go_loopw [60] (fun iv wr => ∃ k : Nat, k ≤ n ∧ iv = .int .i64 k ∧ Ext w5 wr) (fun iv _ => n - (intOf iv).toNat)
  case atStart => exact ⟨0, Nat.zero_le _, rfl, Ext.refl _⟩
  case round =>
    obtain ⟨k, hk, rfl, hx⟩ := hrel
    by_cases hlt : k < n
    · have hltI : (k : Int) < (n : Int) := by omega
      have hl := rowL_length f xs n
      obtain ⟨c, HC⟩ : ∃ c, Hid ((rowL f xs n).getD k nul = c) := ⟨_, rfl⟩
      have vm := vrow_cells ((unhide D4).1.ext hx) k (by omega)
      have vl := vrow_cells ((unhide D4).2.2.1.ext hx) k (by omega)
      rw [unhide HC] at vm vl
      obtain ⟨m0, m1, m2, m3⟩ := vm
      obtain ⟨l0, l1, l2, l3⟩ := vl
      have X := hide hx
      clear hx hl
      go_wp2
      go_quiet (fail)
      go_wp2
      go_roundw
      case rel => exact ⟨k + 1, by omega, by go_num, (unhide X).drewN _⟩
      case measure => simp [intOf]; omega
    · have X := hide hx
      clear hx
      go_wp2
      go_ret
      exact ⟨rfl, (unhide D4).2.2.2.trans (unhide X)⟩

theorem pback_owes (H : Type) (enc : TypeId × Value → H) (W : World) (base : Nat) (args : Array Value) (ds : List (DataW H)) (p : List MemPlace) : Owes H enc Try.prog 7 Try.f7 Rows.pixelBackSpec W base args ds p := by
  intro hval hA hsz
  rw [Try.params7] at hA hval hsz
  obtain ⟨v0, vs0, d0, ds0, p0, q0, hargs, rfl, rfl, h0, r0⟩ := trodAll_cons hA
  obtain ⟨v1, vs1, d1, ds1, p1, q1, rfl, rfl, rfl, h1, r1⟩ := trodAll_cons r0
  obtain ⟨rfl, rfl, rfl⟩ := trodAll_nil r1
  obtain rfl : args = #[v0, v1] := by cases args; simp_all
  obtain ⟨f, rfl, rfl, rfl, wf⟩ := open_int Try.underlying3 (hval 0 3 v0 rfl rfl) h0
  obtain ⟨xs, hrow, hwf, hlen⟩ := open_row (j := 1) Try.underlying36 Try.underlying5 (by kernel_rfl) (hval 1 36 v1 rfl rfl) h1 hsz rfl rfl
  have hB : Byt xs := fun x hx => bounds_u8 (hwf x hx)
  obtain ⟨ao, cap, rfl, _⟩ := hrow.shape
  refine ⟨⟨rfl, rfl, rfl⟩, ?_⟩
  by_cases hl : 5000 < xs.length
  · exact back_long f ao xs.length cap W hl
  · by_cases hf : f < 1 ∨ 7 < f
    · exact back_bad f ao xs.length cap W hf (by omega)
    · obtain ⟨n, rfl⟩ := Int.eq_ofNat_of_zero_le (show 0 ≤ f by omega)
      by_cases hs : xs.length % siz n = 0
      · exact back_walk n ao cap xs W (by omega) (by omega) hrow hB (by omega) hs
      · exact back_off n ao xs.length cap W (by omega) (by omega) (by omega) hs

set_option maxRecDepth 100000 in
theorem pback_lifted (os : Os) (started : os.Started) (H : Type) (enc : TypeId × Value → H) :
    ReturnsInHanded {} Try.checked os 7 .any (Rows.pixelBackSpec.pre6 enc Try.prog Try.f7 [] false) (Rows.pixelBackSpec.post enc Try.prog Try.f7 false true false false) :=
  lift_law (C := Try.checked) own laidOut started (by kernel_rfl) Try.func7 (T := 4) rfl Try.underlying4 rfl (by kernel_rfl)
    (ChangeSpec.witness6 (enc := enc) (C := Try.checked) false ⟨#[], #[.int .i64 0, .slice none 0 0], []⟩ 8 (by kernel_rfl) (by kernel_rfl) (by kernel_rfl) (by kernel_rfl)) (pback_owes H enc)

theorem pixelBack_holds : Rows.PixelBackSaid :=
  OpenClaim.holds_of_wide 7 Try.f7 rfl rfl rfl rfl rfl rfl rfl ⟨rfl, rfl, rfl, rfl, rfl⟩ rfl rfl rfl rfl rfl (by kernel_rfl) Try.func7 (by kernel_rfl)
    (of_decide_eq_true (by kernel_rfl)) (by unfold Func.isWrapper; rw [if_neg (of_decide_eq_false (by kernel_rfl))]; exact ⟨rfl, rfl⟩)
    (fun os started H enc _ => pback_lifted os started H enc)
#print axioms pixelBack_holds
end Go.Proofs.Ytijkkhnhejadgaa
