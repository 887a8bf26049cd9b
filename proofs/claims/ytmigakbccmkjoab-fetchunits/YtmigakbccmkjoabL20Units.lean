/-
  Proved: FetchUnits answers true for every kind and any two numbers, and turns nothing that was there: normalized numbers lie from less than 0 to One, and are never less for a greater one.
-/
import Derived.Test.YtmigakbccmkjoabFr
import Derived.Test.YtmigakbccmkjoabFEq
namespace Go.Proofs.Ytmigakbccmkjoab
open Go.ChangeShapes Go.WideShapes Go.ChangeAt Go.RowKit
set_option linter.unusedVariables false
set_option linter.unusedSimpArgs false

/-- What a normalized number is. -/
theorem unit_form (k n : Int) (h5 : k ≠ 5) (ms : Int) (hms : mstI k = ms) (hm : 0 < ms ∧ ms ≤ 65535) (hn : -32768 ≤ n ∧ n ≤ 65535) :
    numF k true n = max (rawI (if n < 0 then -((-n * 65536 + ms / 2) / ms) else (n * 65536 + ms / 2) / ms)) (-65536) := by
  unfold numF
  rw [if_neg h5, if_neg (by decide), hms, rawI_id (show I32 n by unfold I32; omega), rawI_id (show I32 ms by unfold I32; omega)]
  unfold divI nearI
  rw [if_neg (by omega)]
  have e : ((ms.natAbs : Nat) : Int) = ms := by omega
  rw [e]
  by_cases h0 : n < 0
  · rw [if_pos h0, if_neg (by simp; omega)]
    have e2 : ((n.natAbs : Nat) : Int) = -n := by omega
    rw [e2]
  · rw [if_neg h0, if_pos (by simp; omega)]
    have e2 : ((n.natAbs : Nat) : Int) = n := by omega
    rw [e2]
theorem units_ok (k n m : Int) (hk : knwB k = true) (h5 : k ≠ 5) (hn : lstI k ≤ n ∧ n ≤ mstI k) (hm : lstI k ≤ m ∧ m ≤ mstI k) :
    -65536 ≤ numF k true n ∧ numF k true n ≤ 65536 ∧ (n ≤ m → numF k true n ≤ numF k true m) ∧ (n = 0 → numF k true n = 0) := by
  rcases knw_cases hk with rfl | rfl | rfl | rfl | rfl
  · have hn : -128 ≤ n ∧ n ≤ 127 := hn
    have hm : -128 ≤ m ∧ m ≤ 127 := hm
    rw [unit_form 1 n h5 127 rfl (by omega) (by omega), unit_form 1 m h5 127 rfl (by omega) (by omega)]
    unfold rawI clampI
    refine ⟨?_, ?_, fun _ => ?_, fun _ => ?_⟩ <;> (repeat' split) <;> omega
  · have hn : 0 ≤ n ∧ n ≤ 255 := hn
    have hm : 0 ≤ m ∧ m ≤ 255 := hm
    rw [unit_form 2 n h5 255 rfl (by omega) (by omega), unit_form 2 m h5 255 rfl (by omega) (by omega)]
    unfold rawI clampI
    refine ⟨?_, ?_, fun _ => ?_, fun _ => ?_⟩ <;> (repeat' split) <;> omega
  · have hn : -32768 ≤ n ∧ n ≤ 32767 := hn
    have hm : -32768 ≤ m ∧ m ≤ 32767 := hm
    rw [unit_form 3 n h5 32767 rfl (by omega) (by omega), unit_form 3 m h5 32767 rfl (by omega) (by omega)]
    unfold rawI clampI
    refine ⟨?_, ?_, fun _ => ?_, fun _ => ?_⟩ <;> (repeat' split) <;> omega
  · have hn : 0 ≤ n ∧ n ≤ 65535 := hn
    have hm : 0 ≤ m ∧ m ≤ 65535 := hm
    rw [unit_form 4 n h5 65535 rfl (by omega) (by omega), unit_form 4 m h5 65535 rfl (by omega) (by omega)]
    unfold rawI clampI
    refine ⟨?_, ?_, fun _ => ?_, fun _ => ?_⟩ <;> (repeat' split) <;> omega
  · exact absurd rfl h5

set_option maxHeartbeats 2000000 in
theorem funits_walk (k n m : Int) (W : World) :
    Calls Try.prog 3 #[.int .i64 k, .int .i64 n, .int .i64 m] W fun e w' => e = .returned (.bool true) ∧ Ext W w' := by
  have HN := hide (fun wx => fetNumber_any k true n wx)
  have HM := hide (fun wx => fetNumber_any k true m wx)
  have two : ∀ x, nuE k x = 0 ∨ nuE k x = 2 := fun x => by
    unfold nuE
    split
    · exact .inl rfl
    · exact .inr rfl
  have one : ∀ x, nuE k x = 0 → knwB k = true ∧ lstI k ≤ x ∧ x ≤ mstI k := fun x h => by
    unfold nuE at h
    split at h
    · assumption
    · exact absurd h (by decide)
  have val : ∀ x, nuE k x = 0 → nuF k true x = numF k true x := fun x h => by unfold nuF; rw [if_pos h]
  rcases two n with en | en
  · rcases two m with em | em
    · obtain ⟨hk, hn0, hn1⟩ := one n en
      obtain ⟨_, hm0, hm1⟩ := one m em
      rw [en, val n en] at HN
      rw [em, val m em] at HM
      by_cases h5 : k = 5
      · subst h5
        have hn0 : -2147483648 ≤ n := hn0
        have hn1 : n ≤ 2147483647 := hn1
        have hm0 : -2147483648 ≤ m := hm0
        have hm1 : m ≤ 2147483647 := hm1
        have e1 : numF 5 true n = n := by unfold numF; rw [if_pos rfl]; exact rawI_id ⟨hn0, hn1⟩
        have e2 : numF 5 true m = m := by unfold numF; rw [if_pos rfl]; exact rawI_id ⟨hm0, hm1⟩
        rw [e1] at HN
        rw [e2] at HM
        clear two one val en em hk e1 e2
        go_enter Try.func3, Try.ntmps3
        go_wp2_with (go_at_call 5; refine (wakes20_any _).mono ?_; rintro e w1 ⟨rfl, hx1⟩; have X1 := hide hx1; clear hx1)
        refine (unhide HN _).mono ?_
        rintro e w2 ⟨rfl, hx2⟩
        have X2 := hide ((unhide X1).trans hx2)
        clear hx2
        go_wp2_with fail
        refine (unhide HM _).mono ?_
        rintro e w3 ⟨rfl, hx3⟩
        have X3 := hide ((unhide X2).trans hx3)
        clear hx3
        go_wp2
        all_goals
          go_ret
          exact ⟨by simp, unhide X3⟩
      · obtain ⟨u1, u2, u3, u4⟩ := units_ok k n m hk h5 ⟨hn0, hn1⟩ ⟨hm0, hm1⟩
        generalize numF k true n = x at *
        generalize numF k true m = y at *
        have b5 : (k == 5) = false := by simpa using h5
        have b1 : decide (-65536 ≤ x) = true := by simpa using u1
        have b2 : decide (x ≤ 65536) = true := by simpa using u2
        clear two one val en em hk hn0 hn1 hm0 hm1 h5 u1 u2
        go_enter Try.func3, Try.ntmps3
        rcases (by omega : m < n ∨ (¬ m < n ∧ x ≤ y)) with g | ⟨g, g2⟩
        · have b3 : decide (m < n) = true := by simpa using g
          by_cases z : n = 0
          · have b6 : (n != 0) = false := by simp [z]
            have b7 : (x == 0) = true := by simp [u4 z]
            clear u3 u4 z g
            go_wp2_with (go_at_call 5; refine (wakes20_any _).mono ?_; rintro e w1 ⟨rfl, hx1⟩; have X1 := hide hx1; clear hx1)
            refine (unhide HN _).mono ?_
            rintro e w2 ⟨rfl, hx2⟩
            have X2 := hide ((unhide X1).trans hx2)
            clear hx2
            go_wp2_with fail
            refine (unhide HM _).mono ?_
            rintro e w3 ⟨rfl, hx3⟩
            have X3 := hide ((unhide X2).trans hx3)
            clear hx3
            go_wp2
            all_goals
              go_ret
              exact ⟨by simp, unhide X3⟩
          · have b6 : (n != 0) = true := by simp [z]
            clear u3 u4 z g
            go_wp2_with (go_at_call 5; refine (wakes20_any _).mono ?_; rintro e w1 ⟨rfl, hx1⟩; have X1 := hide hx1; clear hx1)
            refine (unhide HN _).mono ?_
            rintro e w2 ⟨rfl, hx2⟩
            have X2 := hide ((unhide X1).trans hx2)
            clear hx2
            go_wp2_with fail
            refine (unhide HM _).mono ?_
            rintro e w3 ⟨rfl, hx3⟩
            have X3 := hide ((unhide X2).trans hx3)
            clear hx3
            go_wp2
            all_goals
              go_ret
              exact ⟨by simp, unhide X3⟩
        · have b3 : decide (m < n) = false := by simpa using g
          have b4 : decide (x ≤ y) = true := by simpa using g2
          by_cases z : n = 0
          · have b6 : (n != 0) = false := by simp [z]
            have b7 : (x == 0) = true := by simp [u4 z]
            clear u3 u4 z g g2
            go_wp2_with (go_at_call 5; refine (wakes20_any _).mono ?_; rintro e w1 ⟨rfl, hx1⟩; have X1 := hide hx1; clear hx1)
            refine (unhide HN _).mono ?_
            rintro e w2 ⟨rfl, hx2⟩
            have X2 := hide ((unhide X1).trans hx2)
            clear hx2
            go_wp2_with fail
            refine (unhide HM _).mono ?_
            rintro e w3 ⟨rfl, hx3⟩
            have X3 := hide ((unhide X2).trans hx3)
            clear hx3
            go_wp2
            all_goals
              go_ret
              exact ⟨by simp, unhide X3⟩
          · have b6 : (n != 0) = true := by simp [z]
            clear u3 u4 z g g2
            go_wp2_with (go_at_call 5; refine (wakes20_any _).mono ?_; rintro e w1 ⟨rfl, hx1⟩; have X1 := hide hx1; clear hx1)
            refine (unhide HN _).mono ?_
            rintro e w2 ⟨rfl, hx2⟩
            have X2 := hide ((unhide X1).trans hx2)
            clear hx2
            go_wp2_with fail
            refine (unhide HM _).mono ?_
            rintro e w3 ⟨rfl, hx3⟩
            have X3 := hide ((unhide X2).trans hx3)
            clear hx3
            go_wp2
            all_goals
              go_ret
              exact ⟨by simp, unhide X3⟩
    · rw [en] at HN
      rw [em] at HM
      generalize nuF k true n = x at *
      generalize nuF k true m = y at *
      clear two one val en em
      go_enter Try.func3, Try.ntmps3
      go_wp2_with (go_at_call 5; refine (wakes20_any _).mono ?_; rintro e w1 ⟨rfl, hx1⟩; have X1 := hide hx1; clear hx1)
      refine (unhide HN _).mono ?_
      rintro e w2 ⟨rfl, hx2⟩
      have X2 := hide ((unhide X1).trans hx2)
      clear hx2
      go_wp2_with fail
      refine (unhide HM _).mono ?_
      rintro e w3 ⟨rfl, hx3⟩
      have X3 := hide ((unhide X2).trans hx3)
      clear hx3
      go_wp2
      all_goals
        go_ret
        exact ⟨by simp, unhide X3⟩
  · rw [en] at HN
    obtain ⟨er, her⟩ : ∃ er, er = nuE k m := ⟨_, rfl⟩
    rw [← her] at HM
    generalize nuF k true n = x at *
    generalize nuF k true m = y at *
    clear two one val en her
    go_enter Try.func3, Try.ntmps3
    go_wp2_with (go_at_call 5; refine (wakes20_any _).mono ?_; rintro e w1 ⟨rfl, hx1⟩; have X1 := hide hx1; clear hx1)
    refine (unhide HN _).mono ?_
    rintro e w2 ⟨rfl, hx2⟩
    have X2 := hide ((unhide X1).trans hx2)
    clear hx2
    go_wp2_with fail
    refine (unhide HM _).mono ?_
    rintro e w3 ⟨rfl, hx3⟩
    have X3 := hide ((unhide X2).trans hx3)
    clear hx3
    go_wp2
    all_goals
      go_ret
      exact ⟨by simp, unhide X3⟩

set_option maxRecDepth 10000
theorem funits_owes (H : Type) (enc : TypeId × Value → H) (W : World) (base : Nat) (args : Array Value) (ds : List (DataW H)) (p : List MemPlace) : Owes H enc Try.prog 3 Try.f3 Rows.fetchUnitsSpec W base args ds p := by
  intro hval hA hsz
  rw [Try.params3] at hA hval hsz
  obtain ⟨v0, vs0, d0, ds0, p0, q0, hargs, rfl, rfl, h0, r0⟩ := trodAll_cons hA
  obtain ⟨v1, vs1, d1, ds1, p1, q1, rfl, rfl, rfl, h1, r1⟩ := trodAll_cons r0
  obtain ⟨v2, vs2, d2, ds2, p2, q2, rfl, rfl, rfl, h2, r2⟩ := trodAll_cons r1
  obtain ⟨rfl, rfl, rfl⟩ := trodAll_nil r2
  obtain rfl : args = #[v0, v1, v2] := by cases args; simp_all
  obtain ⟨k, rfl, rfl, rfl, wk⟩ := open_int Try.underlying3 (hval 0 3 v0 rfl rfl) h0
  obtain ⟨n, rfl, rfl, rfl, wn⟩ := open_int Try.underlying2 (hval 1 2 v1 rfl rfl) h1
  obtain ⟨m, rfl, rfl, rfl, wm⟩ := open_int Try.underlying2 (hval 2 2 v2 rfl rfl) h2
  exact ⟨⟨rfl, rfl, rfl⟩, funits_walk k n m W⟩

set_option maxRecDepth 100000 in
theorem funits_lifted (os : Os) (started : os.Started) (H : Type) (enc : TypeId × Value → H) :
    ReturnsInHanded {} Try.checked os 3 .any (Rows.fetchUnitsSpec.pre6 enc Try.prog Try.f3 [] false) (Rows.fetchUnitsSpec.post enc Try.prog Try.f3 false true false false) :=
  lift_law (C := Try.checked) own laidOut started (by kernel_rfl) Try.func3 (T := 4) rfl Try.underlying4 rfl (by kernel_rfl)
    (ChangeSpec.witness6 (enc := enc) (C := Try.checked) false ⟨#[], #[.int .i64 0, .int .i64 0, .int .i64 0], []⟩ 8 (by kernel_rfl) (by kernel_rfl) (by kernel_rfl) (by kernel_rfl)) (funits_owes H enc)

theorem fetchUnits_holds : Rows.FetchUnitsSaid :=
  OpenClaim.holds_of_wide 3 Try.f3 rfl rfl rfl rfl rfl rfl rfl ⟨rfl, rfl, rfl, rfl, rfl⟩ rfl rfl rfl rfl rfl (by kernel_rfl) Try.func3 (by kernel_rfl)
    (of_decide_eq_true (by kernel_rfl)) (by unfold Func.isWrapper; rw [if_neg (of_decide_eq_false (by kernel_rfl))]; exact ⟨rfl, rfl⟩)
    (fun os started H enc _ => funits_lifted os started H enc)
#print axioms fetchUnits_holds
end Go.Proofs.Ytmigakbccmkjoab
