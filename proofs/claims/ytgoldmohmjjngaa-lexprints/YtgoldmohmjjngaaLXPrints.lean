/-
  LexPrints: which tokens may be, and their text; for every list.
-/
import Derived.Test.YtgoldmohmjjngaaYE
import Derived.Test.YtgoldmohmjjngaaYD
import Derived.Test.YtgoldmohmjjngaaXV
import Derived.Test.YtgoldmohmjjngaaXW
import Derived.Test.YtgoldmohmjjngaaFrT
import Derived.Test.YtgoldmohmjjngaaShelfB
namespace Go.Proofs.Ytgoldmohmjjngaa
open Go.ChangeShapes Go.WideShapes Go.ChangeAt Go.RowKit
set_option linter.unusedSimpArgs false
set_option linter.unusedVariables false

/-- The tokens ahead of the last one. -/
theorem TO.front {w : World} {base n cap : Nat} {am : Option Addr} {L : List Tok} {t : Tok} (h : TO w base (.slice am (n + 1) cap) (L ++ [t])) (hl : L.length = n) : TR w (.slice am n cap) L := by
  have := h.tr.take L.length (by simp)
  rw [List.take_left, hl] at this
  exact this
theorem TO.last {w : World} {base n cap : Nat} {am : Option Addr} {L : List Tok} {t : Tok} (h : TO w base (.slice am (n + 1) cap) (L ++ [t])) (hl : L.length = n) : ∃ b off, am = some ⟨b, off, none⟩ ∧ w.cell? ⟨b, off + n * 5, none⟩ = some (.int .i64 t.kind) := by
  obtain ⟨b, off, e, ht⟩ := h.tr.at n (by simp; omega)
  refine ⟨b, off, e, ?_⟩
  have hk := ht.kind
  rw [List.getElem_append_right (by omega)] at hk
  simpa using hk
theorem check_two (A : List Tok) : checkE A = 0 ∨ checkE A = 2 := by
  unfold checkE
  split
  · exact .inr rfl
  · exact .inl rfl
theorem check_facts {A : List Tok} (h : checkE A = 0) : A.length ≤ 2048 ∧ ∀ t ∈ A, t.text.length ≤ 64 := by
  unfold checkE at h
  split at h
  · cases h
  · rename_i hn
    refine ⟨by omega, fun t ht => (right_tok ?_).1⟩
    refine Bool.eq_false_iff.2 fun e => hn (.inr (List.any_eq_true.2 ⟨t, ht, e⟩))
theorem few_len (L : List Tok) : (fewL L).length ≤ 2049 := by
  unfold fewL
  rw [List.length_map, List.length_take]
  omega

set_option maxHeartbeats 4000000 in
set_option maxRecDepth 100000 in
theorem lexPrints_any (L : List Tok) (ao : Option Addr) (ca : Nat) (W : World) (m : Int) (hm : W.cell? ⟨0, 0, none⟩ = some (.int .i64 m)) (hL : TR W (.slice ao L.length ca) L) :
    Calls Try.prog 4 #[.slice ao L.length ca] W fun e w' => e = .returned (.bool true) ∧ Ext W w' := by
  have HL := hide hL
  have HM := hide hm
  clear hL hm
  go_enter Try.func4, Try.ntmps4
  go_wp2_with fail
  refine (lexWakes_any W m (unhide HM)).mono ?_
  rintro e w1 ⟨rfl, hx1⟩
  have HL1 := hide ((unhide HL).ext hx1)
  have X1 := hide hx1
  clear hx1 HL
  go_wp2_with fail
  refine (few_any L ao ca w1 (unhide HL1)).mono ?_
  rintro e w2 ⟨am, cm, rfl, hcm, hO2, hx2⟩
  have hfl := few_len L
  have HO2 := hide hO2
  have X2 := hide ((unhide X1).trans hx2)
  clear hx2 hO2 HL1 X1
  generalize fewL L = A at *
  have HT2 : Hid (TR w2 (.slice am A.length cm) A) := (unhide HO2).front rfl
  have HMADE : Hid (TO (w2.alloc (.cells #[] 33)) w2.heap.size (.slice (some ⟨w2.heap.size, 0, none⟩) 0 0) []) := World.ownsRow_made w2 #[] 0 (Nat.le_refl _) (Nat.zero_le _) rfl
  go_wp2_with (at_builtin; refine wpList_append_toks rfl (.tmp 10) (.tmp 11) rfl w2.heap.size _ [] A rfl (unhide HMADE) am cm rfl ((unhide HT2).ext ((Ext.refl _).alloc _)) ?c1 ?c2 ?_)
  case c1 => simp; omega
  case c2 => simp
  intro v3 w3 hO3 hg3
  try rw [List.nil_append] at hO3
  obtain ⟨ao3, cap3, rfl, _⟩ := hO3.shape
  have hx23 : Ext w2 w3 := Below.trans ((Ext.refl _).alloc _) (grown_below hg3 (by simp) (fun g hg => by simp [Value.ownBlock] at hg; omega))
  have X3 := hide ((unhide X2).trans hx23)
  have HO3 := hide ((unhide HO2).ext hx23)
  have HW3 := hide hO3.tr
  clear hO3 hg3 hx23 HO2 X2 HT2 HMADE
  go_wp2_with fail
  refine (check_any A am cm w3 m (keepM (unhide HM) (unhide X3)) ((unhide HO3).front rfl)).mono ?_
  rintro e w4 ⟨rfl, hx4⟩
  have X4 := hide ((unhide X3).trans hx4)
  have HO4 := hide ((unhide HO3).ext hx4)
  have HW4 := hide ((unhide HW3).ext hx4)
  clear hx4 X3 HO3 HW3
  go_wp2_with fail
  refine (print_any A am cm w4 m (keepM (unhide HM) (unhide X4)) ((unhide HO4).front rfl)).mono ?_
  rintro e w5 ⟨rfl, hx5⟩
  have X5 := hide ((unhide X4).trans hx5)
  have HO5 := hide ((unhide HO4).ext hx5)
  have HW5 := hide ((unhide HW4).ext hx5)
  clear hx5 X4 HO4 HW4
  go_wp2_with fail
  refine (all_same A am ao3 cm cap3 w5 ((unhide HO5).front rfl) (unhide HW5)).mono ?_
  rintro e w6 ⟨rfl, hx6⟩
  have X6 := hide ((unhide X5).trans hx6)
  have HO6 := hide ((unhide HO5).ext hx6)
  have HW6 := hide ((unhide HW5).ext hx6)
  clear hx6 X5 HO5 HW5
  obtain ⟨b, off, rfl, h77⟩ := (unhide HO6).last rfl
  have c77 : w6.cell? ⟨b, off + A.length * 5, none⟩ = some (.int .i64 77) := h77
  clear h77
  have q1 : (0 : Int) ≤ (A.length : Int) + 1 := by omega
  have q2 : (A.length : Int) + 1 ≤ (cm : Int) := by omega
  have q3 : ((A.length : Int) + 1).toNat = A.length + 1 := by omega
  have HRR := hide (refRight_any A ao3 cap3 w6 (unhide HW6))
  go_wp2_with fail
  refine (unhide HRR).mono ?_
  rintro e w7 ⟨rfl, hx7⟩
  have X7 := hide ((unhide X6).trans hx7)
  have HW7 := hide ((unhide HW6).ext hx7)
  clear hx7 X6 HW6 HRR c77
  by_cases hc : checkE A = 0
  · obtain ⟨h1, h2⟩ := check_facts hc
    have HPR := hide (refPrint_any A ao3 cap3 w7 (unhide HW7) h1 h2)
    unfold printP
    rw [if_pos hc, hc]
    clear h2 hc
    generalize joinT A = tx at *
    go_wp2_with fail
    refine (unhide HPR).mono ?_
    rintro e w8 ⟨rfl, hx8⟩
    have X8 := hide ((unhide X7).trans hx8)
    clear hx8
    go_wp2
    go_ret
    exact ⟨by simp, unhide X8⟩
  · have hc2 : checkE A = 2 := (check_two A).resolve_left hc
    unfold printP
    rw [if_neg hc, hc2]
    clear hc hc2
    go_wp2
    go_ret
    exact ⟨rfl, unhide X7⟩

theorem lexPrints_owes (H : Type) (enc : TypeId × Value → H) (W : World) (base : Nat) (args : Array Value) (ds : List (DataW H)) (p : List MemPlace) : OwesH H enc Try.prog 4 Try.f4 Rows.lexPrintsSpec W base args ds p := by
  intro hval hA hsz hsh
  rw [Try.params4] at hA hval hsz
  obtain ⟨v0, vs0, d0, ds0, p0, q0, hargs, rfl, rfl, h0, r0⟩ := trodAll_cons hA
  obtain ⟨rfl, rfl, rfl⟩ := trodAll_nil r0
  obtain rfl : args = #[v0] := by cases args; simp_all
  obtain ⟨A, tA⟩ := open_toks (hval 0 24 v0 rfl rfl) h0
  obtain ⟨m, hm⟩ := Try.laysM143.s1_3 W hsh
  have tA' := tA
  obtain ⟨ao, ca, rfl, _⟩ := tA'
  exact ⟨⟨rfl, rfl, rfl⟩, lexPrints_any A ao ca W m hm tA⟩

set_option maxRecDepth 100000 in
theorem lexPrints_lifted (os : Os) (started : os.Started) (H : Type) (enc : TypeId × Value → H) :
    ReturnsInHanded {} Try.checked os 4 .any (Rows.lexPrintsSpec.pre6 enc Try.prog Try.f4 [] false) (Rows.lexPrintsSpec.post enc Try.prog Try.f4 false true false false) :=
  lift_law_shaped (C := Try.checked) own laidOut started (by kernel_rfl) Try.func4 (T := 4) rfl Try.underlying4 rfl (by kernel_rfl)
    (ChangeSpec.witness6 (enc := enc) (C := Try.checked) false ⟨#[], #[.slice none 0 0], []⟩ 8 (by kernel_rfl) (by kernel_rfl) (by kernel_rfl) (by kernel_rfl)) (lexPrints_owes H enc)

theorem lexPrints_holds : Rows.LexPrintsSaid :=
  OpenClaim.holds_of_wide 4 Try.f4 rfl rfl rfl rfl rfl rfl rfl ⟨rfl, rfl, rfl, rfl, rfl⟩ rfl rfl rfl rfl rfl (by kernel_rfl) Try.func4 (by kernel_rfl)
    (of_decide_eq_true (by kernel_rfl)) (by unfold Func.isWrapper; rw [if_neg (of_decide_eq_false (by kernel_rfl))]; exact ⟨rfl, rfl⟩)
    (fun os started H enc _ => lexPrints_lifted os started H enc)
#print axioms lexPrints_holds
end Go.Proofs.Ytgoldmohmjjngaa
