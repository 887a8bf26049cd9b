/-
  LexSame: which lists of tokens are the same; for every two.
-/
import Derived.Test.YtgoldmohmjjngaaXV
import Derived.Test.YtgoldmohmjjngaaXO
import Derived.Test.YtgoldmohmjjngaaFrT
namespace Go.Proofs.Ytgoldmohmjjngaa
open Go.ChangeShapes Go.WideShapes Go.ChangeAt Go.RowKit
set_option linter.unusedSimpArgs false
set_option linter.unusedVariables false

/-- The tokens ahead of the last one. -/
theorem TO.head {w : World} {base n cap : Nat} {am : Option Addr} {L : List Tok} {t : Tok} (h : TO w base (.slice am (n + 1) cap) (L ++ [t])) (hl : L.length = n) : TR w (.slice am n cap) L := by
  have := h.tr.take L.length (by simp)
  rw [List.take_left, hl] at this
  exact this
theorem sameK_refl (A : List Tok) : sameK A A = true := by simp [sameK]

set_option maxHeartbeats 4000000 in
set_option maxRecDepth 100000 in
theorem lexSame_any (A B : List Tok) (ao bo : Option Addr) (ca cb : Nat) (W : World) (m : Int) (hm : W.cell? ⟨0, 0, none⟩ = some (.int .i64 m)) (hA : TR W (.slice ao A.length ca) A) (hB : TR W (.slice bo B.length cb) B) :
    Calls Try.prog 5 #[.slice ao A.length ca, .slice bo B.length cb] W fun e w' => e = .returned (.bool true) ∧ Ext W w' := by
  have HA := hide hA
  have HB := hide hB
  have HM := hide hm
  clear hA hB hm
  go_enter Try.func5, Try.ntmps5
  go_wp2_with fail
  refine (lexWakes_any W m (unhide HM)).mono ?_
  rintro e w1 ⟨rfl, hx1⟩
  have HA1 := hide ((unhide HA).ext hx1)
  have HB1 := hide ((unhide HB).ext hx1)
  have X1 := hide hx1
  clear hx1 HA HB HM
  go_wp2_with fail
  refine (few_any A ao ca w1 (unhide HA1)).mono ?_
  rintro e w2 ⟨am, cm, rfl, hcm, hO2, hx2⟩
  have HB2 := hide ((unhide HB1).ext hx2)
  have HT2 := hide (hO2.head rfl)
  have X2 := hide ((unhide X1).trans hx2)
  clear hx2 hO2 HA1 HB1 X1
  generalize fewL A = FA at *
  go_wp2_with fail
  refine (few_any B bo cb w2 (unhide HB2)).mono ?_
  rintro e w3 ⟨bm, dm, rfl, hdm, hO3, hx3⟩
  have HU3 := hide (hO3.head rfl)
  have HT3 := hide ((unhide HT2).ext hx3)
  have X3 := hide ((unhide X2).trans hx3)
  clear hx3 hO3 HB2 HT2 X2
  generalize fewL B = FB at *
  go_wp2_with fail
  refine (same_any FA FB am bm cm dm w3 (unhide HT3) (unhide HU3)).mono ?_
  rintro e w4 ⟨rfl, hx4⟩
  have HU4 := hide ((unhide HU3).ext hx4)
  have HT4 := hide ((unhide HT3).ext hx4)
  have X4 := hide ((unhide X3).trans hx4)
  clear hx4 HU3 HT3 X3
  go_wp2_with fail
  refine (refSame_any FA FB am bm cm dm w4 (unhide HT4) (unhide HU4)).mono ?_
  rintro e w5 ⟨rfl, hx5⟩
  have HT5 := hide ((unhide HT4).ext hx5)
  have X5 := hide ((unhide X4).trans hx5)
  have HS := same_any FA FA am am cm cm w5 (unhide HT5) (unhide HT5)
  rw [sameK_refl] at HS
  have HSQ := hide HS
  clear HS hx5 HU4 HT4 X4
  generalize sameK FA FB = b at *
  go_wp2_with fail
  refine (unhide HSQ).mono ?_
  rintro e w6 ⟨rfl, hx6⟩
  have X6 := hide ((unhide X5).trans hx6)
  clear hx6
  go_wp2
  go_ret
  exact ⟨rfl, unhide X6⟩

theorem lexSame_owes (H : Type) (enc : TypeId × Value → H) (W : World) (base : Nat) (args : Array Value) (ds : List (DataW H)) (p : List MemPlace) : OwesH H enc Try.prog 5 Try.f5 Rows.lexSameSpec W base args ds p := by
  intro hval hA hsz hsh
  rw [Try.params5] at hA hval hsz
  obtain ⟨v0, vs0, d0, ds0, p0, q0, hargs, rfl, rfl, h0, r0⟩ := trodAll_cons hA
  obtain ⟨v1, vs1, d1, ds1, p1, q1, rfl, rfl, rfl, h1, r1⟩ := trodAll_cons r0
  obtain ⟨rfl, rfl, rfl⟩ := trodAll_nil r1
  obtain rfl : args = #[v0, v1] := by cases args; simp_all
  obtain ⟨A, tA⟩ := open_toks (hval 0 24 v0 rfl rfl) h0
  obtain ⟨B, tB⟩ := open_toks (hval 1 24 v1 rfl rfl) h1
  obtain ⟨m, hm⟩ := Try.laysM143.s1_3 W hsh
  have tA' := tA
  have tB' := tB
  obtain ⟨ao, ca, rfl, _⟩ := tA'
  obtain ⟨bo, cb, rfl, _⟩ := tB'
  exact ⟨⟨rfl, rfl, rfl⟩, lexSame_any A B ao bo ca cb W m hm tA tB⟩

set_option maxRecDepth 100000 in
theorem lexSame_lifted (os : Os) (started : os.Started) (H : Type) (enc : TypeId × Value → H) :
    ReturnsInHanded {} Try.checked os 5 .any (Rows.lexSameSpec.pre6 enc Try.prog Try.f5 [] false) (Rows.lexSameSpec.post enc Try.prog Try.f5 false true false false) :=
  lift_law_shaped (C := Try.checked) own laidOut started (by kernel_rfl) Try.func5 (T := 4) rfl Try.underlying4 rfl (by kernel_rfl)
    (ChangeSpec.witness6 (enc := enc) (C := Try.checked) false ⟨#[], #[.slice none 0 0, .slice none 0 0], []⟩ 8 (by kernel_rfl) (by kernel_rfl) (by kernel_rfl) (by kernel_rfl)) (lexSame_owes H enc)

theorem lexSame_holds : Rows.LexSameSaid :=
  OpenClaim.holds_of_wide 5 Try.f5 rfl rfl rfl rfl rfl rfl rfl ⟨rfl, rfl, rfl, rfl, rfl⟩ rfl rfl rfl rfl rfl (by kernel_rfl) Try.func5 (by kernel_rfl)
    (of_decide_eq_true (by kernel_rfl)) (by unfold Func.isWrapper; rw [if_neg (of_decide_eq_false (by kernel_rfl))]; exact ⟨rfl, rfl⟩)
    (fun os started H enc _ => lexSame_lifted os started H enc)
#print axioms lexSame_holds
end Go.Proofs.Ytgoldmohmjjngaa
