/-
  Vertices out of bytes: the document's Number.
-/
import Derived.Test.YtmigakbccmkjoaaFEh
namespace Go.Proofs.Ytmigakbccmkjoaa
open Go.RowKit
set_option linter.unusedVariables false
set_option linter.unusedSimpArgs false

theorem rnumber_bad (k : Int) (nz : Bool) (n : Int) (w : World) (h : ¬ (knwB k = true ∧ lstI k ≤ n ∧ n ≤ mstI k)) :
    Calls Try.prog 18 #[.int .i64 k, .bool nz, .int .i64 n] w fun e w' => e = .returned (.tuple #[.int .i32 0, .bool false]) ∧ w' = w := by
  by_cases hk : knwB k = true
  · have HC := hide (fun w => rends_any k w hk)
    have HW := hide (fun w => rwidth_any k w)
    have hw := (wid_pos hk).1
    have d0 : ((widI k : Int) == 0) = false := by simp; omega
    have h' : n < lstI k ∨ (lstI k ≤ n ∧ mstI k < n) := by
      by_cases h1 : lstI k ≤ n
      · exact .inr ⟨h1, by
          have : ¬ n ≤ mstI k := fun h2 => h ⟨hk, h1, h2⟩
          omega⟩
      · exact .inl (by omega)
    clear h hk
    generalize lstI k = ls at *
    generalize mstI k = ms at *
    generalize ((widI k : Nat) : Int) = wd at *
    rcases h' with h1 | ⟨h1, h2⟩
    · have d1 : decide (n < ls) = true := by simpa using h1
      go_enter Try.func18, Try.ntmps18
      go_wp2_with (first | (go_at_call 27; refine (unhide HC _).mono ?_; rintro e w1 ⟨rfl, hw⟩; obtain rfl := hw.symm) | (go_at_call 20; refine (unhide HW _).mono ?_; rintro e w1 ⟨rfl, hw⟩; obtain rfl := hw.symm))
      refine bodyPost_ret (v := .tuple #[.int .i32 0, .bool false]) (by simp [results, Try.results18, go_sem]) rfl ⟨rfl, rfl⟩
    · have d1 : decide (n < ls) = false := by simp; omega
      have d2 : decide (ms < n) = true := by simpa using h2
      go_enter Try.func18, Try.ntmps18
      go_wp2_with (first | (go_at_call 27; refine (unhide HC _).mono ?_; rintro e w1 ⟨rfl, hw⟩; obtain rfl := hw.symm) | (go_at_call 20; refine (unhide HW _).mono ?_; rintro e w1 ⟨rfl, hw⟩; obtain rfl := hw.symm))
      refine bodyPost_ret (v := .tuple #[.int .i32 0, .bool false]) (by simp [results, Try.results18, go_sem]) rfl ⟨rfl, rfl⟩
  · have hk : knwB k = false := by simpa using hk
    have HC := hide (fun w => rends_no k w hk)
    have HW := hide (fun w => rwidth_any k w)
    have hn := knw_no hk
    have e : widI k = 0 := by
      unfold widI
      repeat rw [if_neg (by omega)]
    rw [e] at HW
    clear h hk hn e
    go_enter Try.func18, Try.ntmps18
    go_wp2_with (first | (go_at_call 27; refine (unhide HC _).mono ?_; rintro e w1 ⟨rfl, hw⟩; obtain rfl := hw.symm) | (go_at_call 20; refine (unhide HW _).mono ?_; rintro e w1 ⟨rfl, hw⟩; obtain rfl := hw.symm))
    refine bodyPost_ret (v := .tuple #[.int .i32 0, .bool false]) (by simp [results, Try.results18, go_sem]) rfl ⟨rfl, rfl⟩
theorem rnumber_5 (nz : Bool) (n : Int) (w : World) (h1 : -2147483648 ≤ n) (h2 : n ≤ 2147483647) :
    Calls Try.prog 18 #[.int .i64 5, .bool nz, .int .i64 n] w fun e w' => e = .returned (.tuple #[.int .i32 n, .bool true]) ∧ w' = w := by
  have HC := hide (fun w => rends_any 5 w rfl)
  have HW := hide (fun w => rwidth_any 5 w)
  rw [show lstI 5 = -2147483648 from rfl, show mstI 5 = 2147483647 from rfl] at HC
  rw [show ((widI 5 : Nat) : Int) = 4 from rfl] at HW
  have d1 : decide (n < -2147483648) = false := by simp; omega
  have d2 : decide (2147483647 < n) = false := by simp; omega
  go_enter Try.func18, Try.ntmps18
  go_wp2_with (first | (go_at_call 27; refine (unhide HC _).mono ?_; rintro e w1 ⟨rfl, hw⟩; obtain rfl := hw.symm) | (go_at_call 20; refine (unhide HW _).mono ?_; rintro e w1 ⟨rfl, hw⟩; obtain rfl := hw.symm))
  refine bodyPost_ret (v := .tuple #[.int .i32 n, .bool true]) (by simp [results, Try.results18, go_sem]) rfl ⟨rfl, rfl⟩
theorem rnumber_of (k : Int) (n : Int) (w : World) (hk : knwB k = true) (h5 : k ≠ 5) (h1 : lstI k ≤ n) (h2 : n ≤ mstI k) :
    Calls Try.prog 18 #[.int .i64 k, .bool false, .int .i64 n] w fun e w' => e = .returned (.tuple #[.int .i32 (rawI (65536 * n)), .bool true]) ∧ w' = w := by
  have HC := hide (fun w => rends_any k w hk)
  have HW := hide (fun w => rwidth_any k w)
  have hw := (wid_pos hk).1
  have d0 : ((widI k : Int) == 0) = false := by simp; omega
  have d5 : (k == 5) = false := by simpa using h5
  have d1 : decide (n < lstI k) = false := by simp; omega
  have d2 : decide (mstI k < n) = false := by simp; omega
  have hi : I64 n := by
    unfold I64
    rcases knw_cases hk with rfl | rfl | rfl | rfl | rfl <;> simp [lstI, mstI] at h1 h2 <;> omega
  have HO := hide (fun w => refOf_any n w hi)
  generalize lstI k = ls at *
  generalize mstI k = ms at *
  generalize ((widI k : Nat) : Int) = wd at *
  generalize rawI (65536 * n) = y at *
  go_enter Try.func18, Try.ntmps18
  go_wp2_with (first | (go_at_call 27; refine (unhide HC _).mono ?_; rintro e w1 ⟨rfl, hw⟩; obtain rfl := hw.symm) | (go_at_call 20; refine (unhide HW _).mono ?_; rintro e w1 ⟨rfl, hw⟩; obtain rfl := hw.symm) | (go_at_call 28; refine (unhide HO _).mono ?_; rintro e w1 ⟨rfl, hw⟩; obtain rfl := hw.symm))
  refine bodyPost_ret (v := .tuple #[.int .i32 y, .bool true]) (by simp [results, Try.results18, go_sem]) rfl ⟨rfl, rfl⟩

set_option maxHeartbeats 1000000 in
theorem rnumber_1 (n : Int) (w : World) (h1 : (-128) ≤ n) (h2 : n ≤ 127) :
    Calls Try.prog 18 #[.int .i64 1, .bool true, .int .i64 n] w fun e w' => e = .returned (.tuple #[.int .i32 (numF 1 true n), .bool true]) ∧ w' = w := by
  have HC := hide (fun w => rends_any 1 w rfl)
  have HW := hide (fun w => rwidth_any 1 w)
  rw [show lstI 1 = -128 from rfl, show mstI 1 = 127 from rfl] at HC
  rw [show ((widI 1 : Nat) : Int) = 1 from rfl] at HW
  have d1 : decide (n < -128) = false := by simp; omega
  have d2 : decide (127 < n) = false := by simp; omega
  have hnum : numF 1 true n = max (divI (rawI n) (rawI 127)) (-65536) := rfl
  rw [rawI_id (show I32 n by unfold I32; omega), rawI_id (show I32 127 by unfold I32; omega)] at hnum
  unfold divI nearI at hnum
  rw [if_neg (by decide), show ((Int.natAbs 127 : Nat) : Int) = 127 from rfl] at hnum
  unfold rawI clampI at hnum
  generalize numF 1 true n = y at *
  go_enter Try.func18, Try.ntmps18
  by_cases h0 : n < 0
  · rw [if_neg (by simp; omega)] at hnum
    have HN := hide hnum
    clear hnum
    go_wp2_with (first | (go_at_call 27; refine (unhide HC _).mono ?_; rintro e w1 ⟨rfl, hw⟩; obtain rfl := hw.symm) | (go_at_call 20; refine (unhide HW _).mono ?_; rintro e w1 ⟨rfl, hw⟩; obtain rfl := hw.symm))
    all_goals have hnum := unhide HN
    · refine bodyPost_ret (v := .tuple #[.int .i32 (-65536), .bool true]) (by simp [results, Try.results18, go_sem]) rfl ⟨?_, rfl⟩
      rw [show -65536 = y by omega]
    · refine bodyPost_ret (v := .tuple #[.int .i32 (-((65536 * -n * 2 + 127) / 254)), .bool true]) (by simp [results, Try.results18, go_sem]) rfl ⟨?_, rfl⟩
      rw [show -((65536 * -n * 2 + 127) / 254) = y by omega]
  · rw [if_pos (by simp; omega)] at hnum
    have HN := hide hnum
    clear hnum
    go_wp2_with (first | (go_at_call 27; refine (unhide HC _).mono ?_; rintro e w1 ⟨rfl, hw⟩; obtain rfl := hw.symm) | (go_at_call 20; refine (unhide HW _).mono ?_; rintro e w1 ⟨rfl, hw⟩; obtain rfl := hw.symm))
    have hnum := unhide HN
    · refine bodyPost_ret (v := .tuple #[.int .i32 ((65536 * n * 2 + 127) / 254), .bool true]) (by simp [results, Try.results18, go_sem]) rfl ⟨?_, rfl⟩
      rw [show (65536 * n * 2 + 127) / 254 = y by omega]
set_option maxHeartbeats 1000000 in
theorem rnumber_2 (n : Int) (w : World) (h1 : 0 ≤ n) (h2 : n ≤ 255) :
    Calls Try.prog 18 #[.int .i64 2, .bool true, .int .i64 n] w fun e w' => e = .returned (.tuple #[.int .i32 (numF 2 true n), .bool true]) ∧ w' = w := by
  have HC := hide (fun w => rends_any 2 w rfl)
  have HW := hide (fun w => rwidth_any 2 w)
  rw [show lstI 2 = 0 from rfl, show mstI 2 = 255 from rfl] at HC
  rw [show ((widI 2 : Nat) : Int) = 1 from rfl] at HW
  have d1 : decide (n < 0) = false := by simp; omega
  have d2 : decide (255 < n) = false := by simp; omega
  have hnum : numF 2 true n = max (divI (rawI n) (rawI 255)) (-65536) := rfl
  rw [rawI_id (show I32 n by unfold I32; omega), rawI_id (show I32 255 by unfold I32; omega)] at hnum
  unfold divI nearI at hnum
  rw [if_neg (by decide), show ((Int.natAbs 255 : Nat) : Int) = 255 from rfl] at hnum
  unfold rawI clampI at hnum
  generalize numF 2 true n = y at *
  go_enter Try.func18, Try.ntmps18
  have h0 : ¬ n < 0 := by omega
  rw [if_pos (by simp; omega)] at hnum
  have HN := hide hnum
  clear hnum
  go_wp2_with (first | (go_at_call 27; refine (unhide HC _).mono ?_; rintro e w1 ⟨rfl, hw⟩; obtain rfl := hw.symm) | (go_at_call 20; refine (unhide HW _).mono ?_; rintro e w1 ⟨rfl, hw⟩; obtain rfl := hw.symm))
  have hnum := unhide HN
  · refine bodyPost_ret (v := .tuple #[.int .i32 ((65536 * n * 2 + 255) / 510), .bool true]) (by simp [results, Try.results18, go_sem]) rfl ⟨?_, rfl⟩
    rw [show (65536 * n * 2 + 255) / 510 = y by omega]
set_option maxHeartbeats 1000000 in
theorem rnumber_3 (n : Int) (w : World) (h1 : (-32768) ≤ n) (h2 : n ≤ 32767) :
    Calls Try.prog 18 #[.int .i64 3, .bool true, .int .i64 n] w fun e w' => e = .returned (.tuple #[.int .i32 (numF 3 true n), .bool true]) ∧ w' = w := by
  have HC := hide (fun w => rends_any 3 w rfl)
  have HW := hide (fun w => rwidth_any 3 w)
  rw [show lstI 3 = -32768 from rfl, show mstI 3 = 32767 from rfl] at HC
  rw [show ((widI 3 : Nat) : Int) = 2 from rfl] at HW
  have d1 : decide (n < -32768) = false := by simp; omega
  have d2 : decide (32767 < n) = false := by simp; omega
  have hnum : numF 3 true n = max (divI (rawI n) (rawI 32767)) (-65536) := rfl
  rw [rawI_id (show I32 n by unfold I32; omega), rawI_id (show I32 32767 by unfold I32; omega)] at hnum
  unfold divI nearI at hnum
  rw [if_neg (by decide), show ((Int.natAbs 32767 : Nat) : Int) = 32767 from rfl] at hnum
  unfold rawI clampI at hnum
  generalize numF 3 true n = y at *
  go_enter Try.func18, Try.ntmps18
  by_cases h0 : n < 0
  · rw [if_neg (by simp; omega)] at hnum
    have HN := hide hnum
    clear hnum
    go_wp2_with (first | (go_at_call 27; refine (unhide HC _).mono ?_; rintro e w1 ⟨rfl, hw⟩; obtain rfl := hw.symm) | (go_at_call 20; refine (unhide HW _).mono ?_; rintro e w1 ⟨rfl, hw⟩; obtain rfl := hw.symm))
    all_goals have hnum := unhide HN
    · refine bodyPost_ret (v := .tuple #[.int .i32 (-65536), .bool true]) (by simp [results, Try.results18, go_sem]) rfl ⟨?_, rfl⟩
      rw [show -65536 = y by omega]
    · refine bodyPost_ret (v := .tuple #[.int .i32 (-((65536 * -n * 2 + 32767) / 65534)), .bool true]) (by simp [results, Try.results18, go_sem]) rfl ⟨?_, rfl⟩
      rw [show -((65536 * -n * 2 + 32767) / 65534) = y by omega]
  · rw [if_pos (by simp; omega)] at hnum
    have HN := hide hnum
    clear hnum
    go_wp2_with (first | (go_at_call 27; refine (unhide HC _).mono ?_; rintro e w1 ⟨rfl, hw⟩; obtain rfl := hw.symm) | (go_at_call 20; refine (unhide HW _).mono ?_; rintro e w1 ⟨rfl, hw⟩; obtain rfl := hw.symm))
    have hnum := unhide HN
    · refine bodyPost_ret (v := .tuple #[.int .i32 ((65536 * n * 2 + 32767) / 65534), .bool true]) (by simp [results, Try.results18, go_sem]) rfl ⟨?_, rfl⟩
      rw [show (65536 * n * 2 + 32767) / 65534 = y by omega]
set_option maxHeartbeats 1000000 in
theorem rnumber_4 (n : Int) (w : World) (h1 : 0 ≤ n) (h2 : n ≤ 65535) :
    Calls Try.prog 18 #[.int .i64 4, .bool true, .int .i64 n] w fun e w' => e = .returned (.tuple #[.int .i32 (numF 4 true n), .bool true]) ∧ w' = w := by
  have HC := hide (fun w => rends_any 4 w rfl)
  have HW := hide (fun w => rwidth_any 4 w)
  rw [show lstI 4 = 0 from rfl, show mstI 4 = 65535 from rfl] at HC
  rw [show ((widI 4 : Nat) : Int) = 2 from rfl] at HW
  have d1 : decide (n < 0) = false := by simp; omega
  have d2 : decide (65535 < n) = false := by simp; omega
  have hnum : numF 4 true n = max (divI (rawI n) (rawI 65535)) (-65536) := rfl
  rw [rawI_id (show I32 n by unfold I32; omega), rawI_id (show I32 65535 by unfold I32; omega)] at hnum
  unfold divI nearI at hnum
  rw [if_neg (by decide), show ((Int.natAbs 65535 : Nat) : Int) = 65535 from rfl] at hnum
  unfold rawI clampI at hnum
  generalize numF 4 true n = y at *
  go_enter Try.func18, Try.ntmps18
  have h0 : ¬ n < 0 := by omega
  rw [if_pos (by simp; omega)] at hnum
  have HN := hide hnum
  clear hnum
  go_wp2_with (first | (go_at_call 27; refine (unhide HC _).mono ?_; rintro e w1 ⟨rfl, hw⟩; obtain rfl := hw.symm) | (go_at_call 20; refine (unhide HW _).mono ?_; rintro e w1 ⟨rfl, hw⟩; obtain rfl := hw.symm))
  have hnum := unhide HN
  · refine bodyPost_ret (v := .tuple #[.int .i32 ((65536 * n * 2 + 65535) / 131070), .bool true]) (by simp [results, Try.results18, go_sem]) rfl ⟨?_, rfl⟩
    rw [show (65536 * n * 2 + 65535) / 131070 = y by omega]
/-- The document's Number is the program's. -/
theorem rnumber_any (k : Int) (nz : Bool) (n : Int) (w : World) :
    Calls Try.prog 18 #[.int .i64 k, .bool nz, .int .i64 n] w fun e w' => e = .returned (.tuple #[.int .i32 (nuF k nz n), .bool (decide (nuE k n = 0))]) ∧ w' = w := by
  by_cases h : knwB k = true ∧ lstI k ≤ n ∧ n ≤ mstI k
  · have e1 : nuE k n = 0 := by unfold nuE; rw [if_pos h]
    have e2 : nuF k nz n = numF k nz n := by unfold nuF; rw [if_pos e1]
    rw [e1, e2]
    obtain ⟨hk, h1, h2⟩ := h
    by_cases h5 : k = 5
    · subst h5
      have h1 : -2147483648 ≤ n := h1
      have h2 : n ≤ 2147483647 := h2
      have e3 : numF 5 nz n = n := by unfold numF; rw [if_pos rfl]; exact rawI_id ⟨h1, h2⟩
      rw [e3]
      exact rnumber_5 nz n w h1 h2
    · cases nz with
      | false =>
        have e3 : numF k false n = rawI (65536 * n) := by unfold numF; rw [if_neg h5, if_pos rfl]
        rw [e3]
        exact rnumber_of k n w hk h5 h1 h2
      | true =>
        rcases knw_cases hk with rfl | rfl | rfl | rfl | rfl
        · exact rnumber_1 n w h1 h2
        · exact rnumber_2 n w h1 h2
        · exact rnumber_3 n w h1 h2
        · exact rnumber_4 n w h1 h2
        · exact absurd rfl h5
  · have e1 : nuE k n = 2 := by unfold nuE; rw [if_neg h]
    have e2 : nuF k nz n = 0 := by unfold nuF; rw [e1]; simp
    rw [e1, e2]
    exact rnumber_bad k nz n w h
end Go.Proofs.Ytmigakbccmkjoaa
