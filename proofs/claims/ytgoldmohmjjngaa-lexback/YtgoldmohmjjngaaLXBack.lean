/-
  LexBack: the text of a text's tokens has the same tokens; for every text.
-/
import Derived.Test.YtgoldmohmjjngaaXU
import Derived.Test.YtgoldmohmjjngaaFrH
import Derived.ChangeMaps5
namespace Go.Proofs.Ytgoldmohmjjngaa
open Go.ChangeShapes Go.WideShapes Go.ChangeAt Go.RowKit
open Go.ChangeMaps (open_string)
set_option linter.unusedSimpArgs false
set_option linter.unusedVariables false

theorem shortC_any (s : ByteArray) (w : World) : Calls Try.prog 10 #[.string s] w fun e w' => e = .returned (.string (s.extract 0 (min s.size 8193))) ∧ w' = w := by
  have hmn : (min (s.size : Int) 8193).toNat = min s.size 8193 := by omega
  go_enter Try.func10, Try.ntmps10
  go_wp2
  go_ret
  exact ⟨rfl, rfl⟩
theorem lexA_spot (l : Byts8) : ∀ (a ln : Int) (n : Nat), (lexA l a ln n).2.1 ≠ 0 → a ≤ (lexA l a ln n).2.2 ∧ (lexA l a ln n).2.2 ≤ a + l.length := by
  induction hn : l.length using Nat.strongRecOn generalizing l with
  | _ m ih =>
    intro a ln n h
    by_cases hl : l = []
    · subst hl
      rw [lexA_nil] at h
      exact absurd rfl h
    obtain ⟨k, z, hp⟩ : ∃ k z, pieceP l = (k, z) := ⟨_, _, rfl⟩
    have hr := piece_room l hl
    rw [hp] at hr
    simp only at hr
    have hd : (l.drop z).length < m := by rw [List.length_drop]; omega
    have hdl : (l.drop z).length = l.length - z := List.length_drop
    by_cases hk : k = -1
    · subst hk
      rw [lexA_gap hl hp] at h ⊢
      have := ih _ hd _ rfl _ _ _ h
      omega
    · by_cases ht : (tellP k (l.take z) (l.drop z) n).2 = 0
      · rw [lexA_tok hl hp hk a ln n ht] at h ⊢
        by_cases h0 : (lexA (l.drop z) (a + z) (ln + cntL (l.take z)) (n + 1)).2.1 = 0
        · rw [if_neg (by simpa using h0)] at h
          exact absurd rfl h
        · rw [if_pos h0] at h ⊢
          have := ih _ hd _ rfl _ _ _ h
          omega
      · rw [lexA_bad hl hp hk a ln n ht]
        simp only
        omega
theorem text_le (d : Nat) : ∀ (l : Byts8) (a ln : Int) (n : Nat) (ts : List Tok), l.length ≤ d → lexA l a ln n = (ts, 0, 0) → ∀ t ∈ ts, t.text.length ≤ l.length := by
  induction d with
  | zero =>
    intro l a ln n ts hd h t ht
    have : l = [] := List.length_eq_zero_iff.1 (by omega)
    subst this
    rw [lexA_nil] at h
    cases h
    simp at ht
  | succ d ih =>
    intro l a ln n ts hd h t ht
    have hne : ts ≠ [] := by intro e; subst e; simp at ht
    obtain ⟨k, z, x, l2, tm, ts', ln2, e1, hz, hz1, hp, hk1, hk2, ht0, _, e2, hrest, _⟩ := lex_first h hne
    have hlen : l.length - skipN l = z + l2.length := by
      have := congrArg List.length e1
      rw [List.length_drop, List.length_append] at this
      omega
    subst e2
    rcases List.mem_cons.1 ht with rfl | ht
    · simp only
      omega
    · have := ih l2 _ _ _ _ (by omega) hrest t ht
      omega
/-- What holds of a text's tokens. -/
theorem back_told {l : Byts8} {ts : List Tok} {r : Int} (h : lexP l = (ts, 0, r)) : checkE ts = 0 ∧ r = 0 ∧ ((joinT ts).length ≤ 8192 → (lexP (joinT ts)).2 = (0, 0) ∧ sameK ts (lexP (joinT ts)).1 = true) := by
  have hl : l.length ≤ 8192 := by
    refine Nat.le_of_not_lt fun h2 => ?_
    unfold lexP at h
    rw [if_pos h2] at h
    simp at h
  have h' : lexA l 0 0 0 = (ts, 0, r) := by
    unfold lexP at h
    rw [if_neg (by omega)] at h
    exact h
  have hr : r = 0 := by
    have := (lexA_form l 0 0 0).1
    rw [h'] at this
    exact this rfl
  subst hr
  obtain ⟨hal, hn⟩ := alone_all _ l 0 0 0 ts (Nat.le_refl _) (by omega) h'
  refine ⟨?_, rfl, fun h8 => ?_⟩
  · unfold checkE
    rw [if_neg]
    rintro (hb | hb)
    · omega
    · obtain ⟨t, ht, hw⟩ := List.any_eq_true.1 hb
      have htl := text_le _ l 0 0 0 ts (Nat.le_refl _) h' t ht
      unfold wrongP at hw
      rw [lex_alone (hal t ht) (by omega)] at hw
      simp [sameK, keys, key] at hw
  · have hj := lex_join ts 0 0 0 hal (by omega)
    have e : lexP (joinT ts) = lexA (joinT ts) 0 0 0 := by unfold lexP; rw [if_neg (by omega)]
    have hf := (lexA_form (joinT ts) 0 0 0).1 hj.1
    rw [e]
    refine ⟨Prod.ext hj.1 hf, ?_⟩
    unfold sameK
    exact decide_eq_true hj.2.symm

set_option maxHeartbeats 4000000 in
set_option maxRecDepth 100000 in
theorem lexBack_any (s0 : ByteArray) (W : World) (m : Int) (hm : W.cell? ⟨0, 0, none⟩ = some (.int .i64 m)) :
    Calls Try.prog 7 #[.string s0] W fun e w' => e = .returned (.bool true) ∧ Ext W w' := by
  have HM := hide hm
  clear hm
  have hsz : (s0.extract 0 (min s0.size 8193)).size ≤ 8193 := by rw [ByteArray.size_extract]; omega
  go_enter Try.func7, Try.ntmps7
  go_wp2_with fail
  refine (lexWakes_any W m (unhide HM)).mono ?_
  rintro e w1 ⟨rfl, hx1⟩
  have HM1 := hide (keepM (unhide HM) hx1)
  have X1 := hide hx1
  clear HM hx1
  go_wp2_with fail
  refine (shortC_any s0 w1).mono ?_
  rintro e w2 ⟨rfl, rfl⟩
  generalize s0.extract 0 (min s0.size 8193) = s at *
  have hl := list_size s
  go_wp2_with fail
  refine (lex_any s w2 m (unhide HM1)).mono ?_
  rintro e w3 ⟨ao, cap, rfl, hO, hx3⟩
  obtain ⟨R, hR⟩ : ∃ R, lexP s.data.toList = R := ⟨_, rfl⟩
  rw [hR] at hO ⊢
  obtain ⟨L, r1, r2⟩ := R
  simp only at hO ⊢
  have hx4 := hx3.alloc (.cells #[.int .i64 r1, .int .i64 r2] 27)
  have HM4 := hide (keepM (unhide HM1) hx4)
  have X4 := hide ((unhide X1).trans hx4)
  have HT4 := hide ((TO.tr hO).ext ((Ext.refl w3).alloc (.cells #[.int .i64 r1, .int .i64 r2] 27)))
  have HR := hide hR
  clear hO hx3 hx4 HM1 X1 hR
  by_cases he : r1 = 0
  · subst he
    obtain ⟨hck, hr0, htold⟩ := back_told (unhide HR)
    subst hr0
    have hpr : printP L = joinT L := by unfold printP; rw [if_pos hck]
    have HPR := print_any L ao cap _ m (unhide HM4) (unhide HT4)
    rw [hpr] at HPR
    have HPQ := hide HPR
    have HTD := hide htold
    clear HPR htold hpr HR
    go_wp2_with fail
    refine (unhide HPQ).mono ?_
    rintro e w5 ⟨rfl, hx5⟩
    have HM5 := hide (keepM (unhide HM4) hx5)
    have HT5 := hide ((unhide HT4).ext hx5)
    have X5 := hide ((unhide X4).trans hx5)
    have HCK := check_any L ao cap w5 m (unhide HM5) (unhide HT5)
    rw [hck] at HCK
    have HCQ := hide HCK
    clear HCK hx5 HPQ HM4 HT4 X4 hck
    have hjs : (⟨(joinT L).toArray⟩ : ByteArray).size = (joinT L).length := by simp [ByteArray.size]
    go_wp2_with fail
    refine (unhide HCQ).mono ?_
    rintro e w6 ⟨rfl, hx6⟩
    have HM6 := hide (keepM (unhide HM5) hx6)
    have HT6 := hide ((unhide HT5).ext hx6)
    have X6 := hide ((unhide X5).trans hx6)
    clear hx6 HCQ HM5 HT5 X5
    by_cases h8 : 8192 < (joinT L).length
    · have d8 : decide ((8192 : Int) < ((joinT L).length : Int)) = true := by simp; omega
      go_wp2
      go_ret
      exact ⟨rfl, unhide X6⟩
    · have d8 : decide ((8192 : Int) < ((joinT L).length : Int)) = false := by simp; omega
      obtain ⟨ht1, ht2⟩ := unhide HTD (by omega)
      have HLX := lexT_any (joinT L) w6 m (unhide HM6)
      generalize lexP (joinT L) = R2 at *
      obtain ⟨M, e1, e2⟩ := R2
      cases ht1
      have HLY := hide HLX
      have HS2 := hide ht2
      clear HLX ht2 HTD
      go_wp2_with fail
      refine (unhide HLY).mono ?_
      rintro e w7 ⟨ao7, cap7, rfl, hO7, hx7⟩
      have hx8 := hx7.alloc (.cells #[.int .i64 0, .int .i64 0] 27)
      have HT8 := hide ((unhide HT6).ext hx8)
      have HM8 := hide ((TO.tr hO7).ext ((Ext.refl w7).alloc (.cells #[.int .i64 0, .int .i64 0] 27)))
      have X8 := hide ((unhide X6).trans hx8)
      have HSM := same_any L M _ _ cap cap7 _ (unhide HT8) (unhide HM8)
      rw [show sameK L M = true from unhide HS2] at HSM
      have HSQ := hide HSM
      clear HSM hO7 hx7 hx8 HLY
      go_wp2_with fail
      refine (unhide HSQ).mono ?_
      rintro e w9 ⟨rfl, hx9⟩
      have X9 := hide ((unhide X8).trans hx9)
      clear hx9
      go_wp2
      go_ret
      exact ⟨rfl, unhide X9⟩
  · have he' : (r1 == 0) = false := beq_eq_false_iff_ne.2 he
    have hLr : L.length = 0 ∧ 0 ≤ r2 ∧ r2 ≤ s.size := by
      have h0 := unhide HR
      by_cases h8 : 8192 < s.data.toList.length
      · unfold lexP at h0
        rw [if_pos h8] at h0
        cases h0
        exact ⟨rfl, by omega, by omega⟩
      · have h1 : lexA s.data.toList 0 0 0 = (L, r1, r2) := by
          unfold lexP at h0
          rw [if_neg h8] at h0
          exact h0
        have hf := (lexA_form s.data.toList 0 0 0).2
        have hs := lexA_spot s.data.toList 0 0 0
        rw [h1] at hf hs
        have h2 : L = [] := hf he
        have h3 := hs he
        simp only at h3
        rw [hl] at h3
        exact ⟨by rw [h2]; rfl, by omega, by omega⟩
    have g1 : ((L.length : Int) == 0) = true := by rw [hLr.1]; rfl
    have g2 : decide ((0 : Int) ≤ r2) = true := by simpa using hLr.2.1
    have g3 : decide (r2 ≤ (s.size : Int)) = true := by simpa using hLr.2.2
    go_wp2
    go_ret
    exact ⟨rfl, unhide X4⟩

theorem lexBack_owes (H : Type) (enc : TypeId × Value → H) (W : World) (base : Nat) (args : Array Value) (ds : List (DataW H)) (p : List MemPlace) : OwesH H enc Try.prog 7 Try.f7 Rows.lexBackSpec W base args ds p := by
  intro hval hA hsz hsh
  rw [Try.params7] at hA hval hsz
  obtain ⟨v0, vs0, d0, ds0, p0, q0, hargs, rfl, rfl, h0, r0⟩ := trodAll_cons hA
  obtain ⟨rfl, rfl, rfl⟩ := trodAll_nil r0
  obtain rfl : args = #[v0] := by cases args; simp_all
  obtain ⟨s, rfl, rfl, rfl, ws⟩ := open_string Try.underlying9 (hval 0 9 v0 rfl rfl) h0
  obtain ⟨m, hm⟩ := Try.laysM143.s1_3 W hsh
  exact ⟨⟨rfl, rfl, rfl⟩, lexBack_any s W m hm⟩

set_option maxRecDepth 100000 in
theorem lexBack_lifted (os : Os) (started : os.Started) (H : Type) (enc : TypeId × Value → H) :
    ReturnsInHanded {} Try.checked os 7 .any (Rows.lexBackSpec.pre6 enc Try.prog Try.f7 [] false) (Rows.lexBackSpec.post enc Try.prog Try.f7 false true false false) :=
  lift_law_shaped (C := Try.checked) own laidOut started (by kernel_rfl) Try.func7 (T := 4) rfl Try.underlying4 rfl (by kernel_rfl)
    (ChangeSpec.witness6 (enc := enc) (C := Try.checked) false ⟨#[], #[.string ⟨#[]⟩], []⟩ 8 (by kernel_rfl) (by kernel_rfl) (by kernel_rfl) (by kernel_rfl)) (lexBack_owes H enc)

theorem lexBack_holds : Rows.LexBackSaid :=
  OpenClaim.holds_of_wide 7 Try.f7 rfl rfl rfl rfl rfl rfl rfl ⟨rfl, rfl, rfl, rfl, rfl⟩ rfl rfl rfl rfl rfl (by kernel_rfl) Try.func7 (by kernel_rfl)
    (of_decide_eq_true (by kernel_rfl)) (by unfold Func.isWrapper; rw [if_neg (of_decide_eq_false (by kernel_rfl))]; exact ⟨rfl, rfl⟩)
    (fun os started H enc _ => lexBack_lifted os started H enc)
#print axioms lexBack_holds
end Go.Proofs.Ytgoldmohmjjngaa
