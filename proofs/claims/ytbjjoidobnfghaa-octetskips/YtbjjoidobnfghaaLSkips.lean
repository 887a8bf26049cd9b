/-
  Proved: OctetSkips answers true for all bytes b and every list of numbers l, and turns nothing that was there: Skip leaves a Reader as Raw does: as many bytes are left, and the error is the same. No condition but the form's own bound on what is read.
-/
import Derived.Test.YtbjjoidobnfghaaFr
import Derived.Test.YtbjjoidobnfghaaW5
import Derived.Test.YtbjjoidobnfghaaBlk
namespace Go.Proofs.Ytbjjoidobnfghaa
open Go.ChangeShapes Go.WideShapes Go.ChangeAt Go.RowKit
open Go.ChangeMaps (open_string shut_string)


set_option maxHeartbeats 1000000 in
theorem skips_walk (v lv : Value) (bs ls : List Int) (w : World) (hr : Row .u8 w v bs) (hl : Row .i64 w lv ls) (hm : bs.length ≤ 140737488351232) (hlm : ls.length ≤ 140737488351232) (hB : Byt bs) :
    Calls Try.prog 7 #[v, lv] w fun e w' => e = .returned (.bool true) ∧ Ext w w' := by
  have HR := hide hr
  have HL := hide hl
  obtain ⟨ao, cap, rfl, _⟩ := hr.shape
  obtain ⟨lo, lcap, rfl, _⟩ := hl.shape
  clear hr hl
  go_enter Try.func7, Try.ntmps7
  go_wp2_with fail
  refine (wakes_any w).mono ?_
  rintro e w1 ⟨rfl, hb1⟩
  have e1 : Hid (Ext w w1) := hb1
  clear hb1
  go_wp2_with fail
  refine (read_any _ bs _ ((unhide HR).ext (unhide e1)) (by omega) hB).mono ?_
  rintro e w2 ⟨rb, sv, rfl, hrb, hrd, hb2⟩
  have e2 : Hid (Ext w1 w2) := hb2
  have hs1 : w.heap.size ≤ rb := Nat.le_trans (unhide e1).size hrb
  have D1 := hide hrd
  clear hrb hrd hb2
  go_wp2_with fail
  refine (read_any _ bs _ ((unhide HR).ext ((unhide e1).trans (unhide e2))) (by omega) hB).mono ?_
  rintro e w3 ⟨rb2, sv2, rfl, hrb2, hrd2, hb3⟩
  have hne : rb ≠ rb2 := by have := (unhide D1).lt; omega
  have hs2 : w.heap.size ≤ rb2 := Nat.le_trans ((unhide e1).trans (unhide e2)).size hrb2
  have D2 : Hid (Rd w3 rb sv bs 0 0 ∧ Rd w3 rb2 sv2 bs 0 0 ∧ Below w.heap.size w w3) := ⟨(unhide D1).below hb3, hrd2, (unhide e1).trans ((unhide e2).trans hb3)⟩
  clear hrb2 hrd2 hb3 D1
  go_wp2
  go_loopw [17] (fun i wr => ∃ (k p : Nat) (err : Int), k ≤ ls.length ∧ i = .int .i64 k ∧ Rd wr rb sv bs p err ∧ Rd wr rb2 sv2 bs p err ∧ Below w.heap.size w wr) (fun i _ => ls.length - (intOf i).toNat)
  case atStart => exact ⟨0, 0, 0, Nat.zero_le _, rfl, (unhide D2).1, (unhide D2).2.1, (unhide D2).2.2⟩
  case round =>
    obtain ⟨k, p, err, hk, rfl, h1, h2, hbl⟩ := hrel
    have HL2 := hide ((unhide HL).below hbl)
    have D := hide (And.intro h1 (And.intro h2 hbl))
    clear h1 h2 hbl D2 e1 e2 HR
    by_cases hlt : k < ls.length
    · obtain ⟨b, off, rfl, hc⟩ := (unhide HL2).at k hlt
      have hck := hc k hlt
      clear hc
      by_cases h100 : k = 100
      · have hc100 : ((k : Int) == 100) = true := by simp [h100]
        clear h100
        go_wp2
        go_ret
        exact ⟨rfl, (unhide D).2.2⟩
      · have hc100 : ((k : Int) == 100) = false := by simp; omega
        clear h100
        go_wp2_with fail
        refine (skip_any (unhide D).1 _).mono ?_
        rintro e w4 ⟨rfl, h4, g4⟩
        have D4 := hide (And.intro h4 (And.intro ((unhide D).2.1.other (unhide D).1 (Ne.symm hne) g4) (below_grown (unhide D).2.2 g4 (unhide D).2.2.size hs1)))
        clear h4 g4 D
        go_wp2_with fail
        refine (raw_any (unhide D4).2.1 _).mono ?_
        rintro e w5 ⟨ao5, cap5, rfl, hr5, h5, g5⟩
        have D5 := hide (And.intro ((unhide D4).1.other (unhide D4).2.1 hne g5) (And.intro h5 (below_grown (unhide D4).2.2 g5 (unhide D4).2.2.size hs2)))
        clear hr5 h5 g5 D4
        generalize took bs p err ls[k] = t at *
        obtain ⟨ts, q, er⟩ := t
        simp only at D5 ⊢
        go_wp2_with fail
        refine (left_any (unhide D5).1).mono ?_
        rintro e w6 ⟨rfl, n6, rfl⟩
        go_wp2_with fail
        refine (left_any ((unhide D5).2.1.drewN _)).mono ?_
        rintro e w7 ⟨rfl, n7, rfl⟩
        go_wp2_with fail
        refine (err_any ((unhide D5).1.drewN _)).mono ?_
        rintro e w8 ⟨rfl, rfl⟩
        go_wp2_with fail
        refine (err_any ((unhide D5).2.1.drewN _)).mono ?_
        rintro e w9 ⟨rfl, rfl⟩
        go_wp2
        go_roundw
        case rel => exact ⟨k + 1, q, er, by omega, by go_num, (unhide D5).1.drewN _, (unhide D5).2.1.drewN _, below_drewN (unhide D5).2.2 _⟩
        case measure => simp [intOf]; omega
    · go_wp2
      go_ret
      exact ⟨rfl, (unhide D).2.2⟩

theorem byt_of {xs : List Int} (h : ∀ x ∈ xs, (Lit.int .u8 x).wf = true) : Byt xs := fun x hx => by have := bounds_u8 (h x hx); omega

theorem skips_owes (H : Type) (enc : TypeId × Value → H) (W : World) (base : Nat) (args : Array Value) (ds : List (DataW H)) (p : List MemPlace) : Owes H enc Try.prog 7 Try.f7 Rows.octetSkipsSpec W base args ds p := by
  intro hval hA hsz
  rw [Try.params7] at hA hval hsz
  obtain ⟨v0, vs0, d0, ds0, p0, q0, hargs, rfl, rfl, h0, r0⟩ := trodAll_cons hA
  obtain ⟨v1, vs1, d1, ds1, p1, q1, rfl, rfl, rfl, h1, r1⟩ := trodAll_cons r0
  obtain ⟨rfl, rfl, rfl⟩ := trodAll_nil r1
  obtain rfl : args = #[v0, v1] := by cases args; simp_all
  obtain ⟨xs, hrow, hwf, hlen⟩ := open_row (j := 0) Try.underlying22 Try.underlying5 (by kernel_rfl) (hval 0 22 v0 rfl rfl) h0 hsz rfl rfl
  obtain ⟨ls, hrow2, _, hlen2⟩ := open_row (j := 1) Try.underlying61 Try.underlying3 (by kernel_rfl) (hval 1 61 v1 rfl rfl) h1 hsz rfl rfl
  have hb : Try.prog.bytesOf 5 = 1 := by kernel_rfl
  have hb2 : Try.prog.bytesOf 3 = 8 := by kernel_rfl
  rw [hb] at hlen
  rw [hb2] at hlen2
  exact ⟨⟨rfl, rfl, rfl⟩, skips_walk v0 v1 xs ls W hrow hrow2 (by omega) (by omega) (byt_of hwf)⟩

set_option maxRecDepth 100000 in
theorem skips_lifted (os : Os) (started : os.Started) (H : Type) (enc : TypeId × Value → H) :
    ReturnsInHanded {} Try.checked os 7 .any (Rows.octetSkipsSpec.pre6 enc Try.prog Try.f7 [] false) (Rows.octetSkipsSpec.post enc Try.prog Try.f7 false true false false) :=
  lift_law (C := Try.checked) own laidOut started (by kernel_rfl) Try.func7 (T := 4) rfl Try.underlying4 rfl (by kernel_rfl)
    (ChangeSpec.witness6 (enc := enc) (C := Try.checked) false ⟨#[], #[.slice none 0 0, .slice none 0 0], []⟩ 8 (by kernel_rfl) (by kernel_rfl) (by kernel_rfl) (by kernel_rfl)) (skips_owes H enc)

theorem octetSkips_holds : Rows.OctetSkipsSaid :=
  OpenClaim.holds_of_wide 7 Try.f7 rfl rfl rfl rfl rfl rfl rfl ⟨rfl, rfl, rfl, rfl, rfl⟩ rfl rfl rfl rfl rfl (by kernel_rfl) Try.func7 (by kernel_rfl)
    (of_decide_eq_true (by kernel_rfl)) (by unfold Func.isWrapper; rw [if_neg (of_decide_eq_false (by kernel_rfl))]; exact ⟨rfl, rfl⟩)
    (fun os started H enc _ => skips_lifted os started H enc)
#print axioms octetSkips_holds
end Go.Proofs.Ytbjjoidobnfghaa
