/-
  Images: the walk of Check.
-/
import Derived.Test.YtpjapdifmfpcnaaIT
import Derived.Test.YtpjapdifmfpcnaaQt
namespace Go.Proofs.Ytpjapdifmfpcnaa
open Go.RowKit
set_option linter.unusedVariables false
set_option linter.unusedSimpArgs false

theorem Blk.six {w : World} {b : Nat} {a0 a1 a2 a3 a4 a5 : Value} {t : TypeId} (h : Blk w b #[a0, a1, a2, a3, a4, a5] t) :
    w.cell? ⟨b, 0, none⟩ = some a0 ∧ w.cell? ⟨b, 1, none⟩ = some a1 ∧ w.cell? ⟨b, 2, none⟩ = some a2 ∧ w.cell? ⟨b, 3, none⟩ = some a3 ∧ w.cell? ⟨b, 4, none⟩ = some a4 ∧ w.cell? ⟨b, 5, none⟩ = some a5 :=
  ⟨h.cell (i := 0) rfl, h.cell (i := 1) rfl, h.cell (i := 2) rfl, h.cell (i := 3) rfl, h.cell (i := 4) rfl, h.cell (i := 5) rfl⟩
theorem Blk.four {w : World} {b : Nat} {a0 a1 a2 a3 : Value} {t : TypeId} (h : Blk w b #[a0, a1, a2, a3] t) :
    w.cell? ⟨b, 0, none⟩ = some a0 ∧ w.cell? ⟨b, 1, none⟩ = some a1 ∧ w.cell? ⟨b, 2, none⟩ = some a2 ∧ w.cell? ⟨b, 3, none⟩ = some a3 :=
  ⟨h.cell (i := 0) rfl, h.cell (i := 1) rfl, h.cell (i := 2) rfl, h.cell (i := 3) rfl⟩
theorem Blk.three {w : World} {b : Nat} {a0 a1 a2 : Value} {t : TypeId} (h : Blk w b #[a0, a1, a2] t) :
    w.cell? ⟨b, 0, none⟩ = some a0 ∧ w.cell? ⟨b, 1, none⟩ = some a1 ∧ w.cell? ⟨b, 2, none⟩ = some a2 :=
  ⟨h.cell (i := 0) rfl, h.cell (i := 1) rfl, h.cell (i := 2) rfl⟩

theorem siz_bd (f : Int) : 0 ≤ sizI f ∧ sizI f ≤ 4 := by
  unfold sizI
  repeat' split
  all_goals omega
/-- What Check answers. -/
def chkE (I : Img) : Int := if okB (sizI I.f) I = true then 0 else 180
theorem chkE_no {I : Img} (h : ¬ okB (sizI I.f) I = true) : chkE I = 180 := if_neg h
theorem chkE_yes {I : Img} (h : okB (sizI I.f) I = true) : chkE I = 0 := if_pos h

section
variable {w : World} {v : Value} {L : List Ent} {I : Img}
set_option maxRecDepth 10000 in
set_option maxHeartbeats 4000000 in
theorem check_any (h : LR w v L) (hL : L.length ≤ 4000000000000) (hA : I.L = absL L) :
    Calls Try.prog 18 #[.agg #[.int .i64 I.f, v, .int .i64 I.ws, .int .i64 I.wt, .int .i64 I.mn, .int .i64 I.mg]] w fun e w' => e = .returned (.int .i64 (chkE I)) ∧ Ext w w' := by
  obtain ⟨ao, cap, rfl, hao, hlc, hcm, _⟩ := h.shape
  have hcm2 : cap ≤ 9223372036854775807 := by unfold maxLen at hcm; omega
  have hal : I.L.length = L.length := by rw [hA, absL_len]
  have HA := hide hA
  have HAL := hide hal
  have HH := hide h
  have hX1 := (Ext.refl w).alloc (.cells #[.int .i64 I.f, .slice ao L.length cap, .int .i64 I.ws, .int .i64 I.wt, .int .i64 I.mn, .int .i64 I.mg] 24)
  have hB1 := Blk.new w #[.int .i64 I.f, .slice ao L.length cap, .int .i64 I.ws, .int .i64 I.wt, .int .i64 I.mn, .int .i64 I.mg] 24
  have HX1 := hide hX1
  have HB1 := hide hB1
  have m0 := cell_later hB1.six.1
  have m1 := cell_later hB1.six.2.1
  have hne := Later.some (w.alloc (.cells #[.int .i64 I.f, .slice ao L.length cap, .int .i64 I.ws, .int .i64 I.wt, .int .i64 I.mn, .int .i64 I.mg] 24))
  clear h hA hal hao hcm hX1 hB1
  go_enter Try.func18, Try.ntmps18
  go_wp2
  refine wp_region_later (by kernel_rfl) (by kernel_rfl) ?_
  repeat (go_big_quiet_step (first | (go_at_call 25; refine calls_later (size_any _ _))))
  refine wpQuiet_nil ?_
  rintro _ ⟨x, rfl⟩
  have hx2 := x.ext
  generalize x.w = w2 at hx2 ⊢
  clear x m0 m1 hne
  have HX2 := hide ((unhide HX1).trans hx2)
  have HB2 := hide ((unhide HB1).ext hx2)
  clear HX1 HB1 hx2
  obtain ⟨q0, q1, q2, q3, q4, q5⟩ := (unhide HB2).six
  have HS := hide (siz_bd I.f)
  have HE : Hid (∀ h : ¬ okB (sizI I.f) I = true, chkE I = 180) := fun h => chkE_no h
  have HE2 : Hid (∀ h : okB (sizI I.f) I = true, chkE I = 0) := fun h => chkE_yes h
  have hs1 := (unhide HS).1
  have hs2 := (unhide HS).2
  obtain ⟨s, hs⟩ : ∃ s, s = sizI I.f := ⟨_, rfl⟩
  rw [← hs] at HS HE HE2 hs1 hs2 ⊢
  clear hs
  by_cases a1 : L.length = 0 ∧ I.f ≠ 0
  · have b1 : ((L.length : Int) == 0) = true := by rw [beq_iff_eq]; omega
    have b2 : (I.f != 0) = true := by simp [a1.2]
    have E := hide (unhide HE (fun hok => a1.2 ((okB_iff.1 hok).2.1 (by rw [unhide HAL]; exact a1.1))))
    clear a1
    go_wp2
    go_ret
    rw [unhide E]
    exact ⟨rfl, unhide HX2⟩
  have A1 : Hid (((L.length : Int) == 0) = false ∨ ((L.length : Int) == 0) = true ∧ (I.f != 0) = false) := by
    show _ ∨ _
    by_cases h0 : L.length = 0
    · refine .inr ⟨by rw [beq_iff_eq]; omega, ?_⟩
      have : I.f = 0 := Classical.byContradiction fun h => a1 ⟨h0, h⟩
      simp [this]
    · exact .inl (by rw [beq_eq_false_iff_ne]; omega)
  have A1' := hide a1
  clear a1
  by_cases a2 : 7 < L.length
  · have b0 : ((L.length : Int) == 0) = false := by rw [beq_eq_false_iff_ne]; omega
    have b1 : (7 : Int) < (L.length : Int) := by omega
    have E := hide (unhide HE (fun hok => by have := (okB_iff.1 hok).1; rw [unhide HAL] at this; omega))
    clear a2
    go_wp2
    go_ret
    rw [unhide E]
    exact ⟨rfl, unhide HX2⟩
  have b7 : (L.length : Int) ≤ 7 := by omega
  have HL2 := hide ((unhide HH).ext (unhide HX2))
  have HWR := hide (wrongAt_all s (absL L))
  have HWL := hide (wrongAt_le s (absL L))
  rw [absL_len] at HWL HWR
  have hfw := firstWrong_any (unhide HL2) (by omega) s (unhide HS)
  have HFW := hide hfw
  clear hfw
  have hwl := unhide HWL
  obtain ⟨fw, hfwe⟩ : ∃ fw, fw = wrongAt s (absL L) := ⟨_, rfl⟩
  rw [← hfwe] at HFW HWR hwl
  clear hfwe HWL
  by_cases a3 : fw < L.length
  · have b3 : (fw : Int) < (L.length : Int) := by omega
    have b0 : ((L.length : Int) == 0) = false := by rw [beq_eq_false_iff_ne]; omega
    have E := hide (unhide HE (fun hok => by
      have h3 := (okB_iff.1 hok).2.2.1
      rw [unhide HA] at h3
      have := (unhide HWR).2 h3
      omega))
    clear a2 a3
    go_wp2_with fail
    refine (unhide HFW).mono ?_
    rintro e w3 ⟨rfl, hx3⟩
    have HX3 := hide ((unhide HX2).trans hx3)
    clear hx3
    go_wp2
    go_ret
    rw [unhide E]
    exact ⟨rfl, unhide HX3⟩
  obtain rfl : fw = L.length := by omega
  have HAll := hide ((unhide HWR).1 rfl)
  clear HWR a2 a3 hwl
  have T1 := hide (takes_any 1 I.ws)
  have T2 := hide (takes_any 2 I.wt)
  have T3 := hide (takes_any 3 I.mn)
  have T4 := hide (takes_any 4 I.mg)
  have HV : Hid (okB s I = true ↔ (0 < L.length → s ≠ 0 ∧ hasB (absL L) ((L.length : Int) - 1) = true) ∧ valB 1 I.ws = true ∧ valB 2 I.wt = true ∧ valB 3 I.mn = true ∧ valB 4 I.mg = true) := by
    show _ ↔ _
    rw [okB_iff, unhide HAL, unhide HA]
    constructor
    · intro h
      exact h.2.2.2
    · intro h
      exact ⟨by omega, fun h0 => Classical.byContradiction fun h1 => unhide A1' ⟨h0, h1⟩, unhide HAll, h⟩
  generalize valB 1 I.ws = t1 at *
  generalize valB 2 I.wt = t2 at *
  generalize valB 3 I.mn = t3 at *
  generalize valB 4 I.mg = t4 at *
  -- from the third test on, in the world w3
  rcases (by omega : L.length = 0 ∨ 0 < L.length) with h0 | h0
  · have b0 : ((L.length : Int) == 0) = true := by rw [beq_iff_eq]; omega
    have b1 : (I.f != 0) = false := by
      rcases unhide A1 with h | h
      · rw [h] at b0; cases b0
      · exact h.2
    have b2 : ¬ (0 : Int) < (L.length : Int) := by omega
    have b3 : ¬ (L.length : Int) < (L.length : Int) := by omega
    have HV2 : Hid (okB s I = true ↔ t1 = true ∧ t2 = true ∧ t3 = true ∧ t4 = true) := by
      show _ ↔ _
      rw [unhide HV]
      exact ⟨fun h => h.2, fun h => ⟨fun h1 => by omega, h⟩⟩
    clear HV A1 A1' h0
    go_wp2_with fail
    refine (unhide HFW).mono ?_
    rintro e w3 ⟨rfl, hx3⟩
    have HX3 := hide ((unhide HX2).trans hx3)
    obtain ⟨q0, q1, q2, q3, q4, q5⟩ := ((unhide HB2).ext hx3).six
    clear hx3
    go_wp2_with fail
    refine (unhide T1 _).mono ?_
    rintro e w4 ⟨rfl, rfl⟩
    cases t1 with
    | false =>
      have E := hide (unhide HE (fun hok => by have := (unhide HV2).1 hok; simp at this))
      go_wp2
      go_ret
      rw [unhide E]
      exact ⟨rfl, unhide HX3⟩
    | true =>
      go_wp2_with fail
      refine (unhide T2 _).mono ?_
      rintro e w4 ⟨rfl, rfl⟩
      cases t2 with
      | false =>
        have E := hide (unhide HE (fun hok => by have := (unhide HV2).1 hok; simp at this))
        go_wp2
        go_ret
        rw [unhide E]
        exact ⟨rfl, unhide HX3⟩
      | true =>
        go_wp2_with fail
        refine (unhide T3 _).mono ?_
        rintro e w4 ⟨rfl, rfl⟩
        cases t3 with
        | false =>
          have E := hide (unhide HE (fun hok => by have := (unhide HV2).1 hok; simp at this))
          go_wp2
          go_ret
          rw [unhide E]
          exact ⟨rfl, unhide HX3⟩
        | true =>
          go_wp2_with fail
          refine (unhide T4 _).mono ?_
          rintro e w4 ⟨rfl, rfl⟩
          cases t4 with
          | false =>
            have E := hide (unhide HE (fun hok => by have := (unhide HV2).1 hok; simp at this))
            go_wp2
            go_ret
            rw [unhide E]
            exact ⟨rfl, unhide HX3⟩
          | true =>
            have E := hide (unhide HE2 ((unhide HV2).2 (by simp)))
            go_wp2
            go_ret
            rw [unhide E]
            exact ⟨rfl, unhide HX3⟩
  · have b0 : ((L.length : Int) == 0) = false := by rw [beq_eq_false_iff_ne]; omega
    have b2 : (0 : Int) < (L.length : Int) := by omega
    have b3 : ¬ (L.length : Int) < (L.length : Int) := by omega
    have HV2 : Hid (okB s I = true ↔ (s ≠ 0 ∧ hasB (absL L) ((L.length : Int) - 1) = true) ∧ t1 = true ∧ t2 = true ∧ t3 = true ∧ t4 = true) := by
      show _ ↔ _
      rw [unhide HV]
      exact ⟨fun h => ⟨h.1 h0, h.2⟩, fun h => ⟨fun _ => h.1, h.2⟩⟩
    clear HV A1 A1' h0
    go_wp2_with fail
    refine (unhide HFW).mono ?_
    rintro e w3 ⟨rfl, hx3⟩
    have HX3 := hide ((unhide HX2).trans hx3)
    have HL3 := hide ((unhide HL2).ext hx3)
    have HB3 := hide ((unhide HB2).ext hx3)
    obtain ⟨q0, q1, q2, q3, q4, q5⟩ := (unhide HB3).six
    clear hx3
    by_cases hs0 : s = 0
    · have c1 : (s == 0) = true := by simp [hs0]
      have E := hide (unhide HE (fun hok => ((unhide HV2).1 hok).1.1 hs0))
      clear hs0
      go_wp2
      go_ret
      rw [unhide E]
      exact ⟨rfl, unhide HX3⟩
    have c1 : (s == 0) = false := by simp [hs0]
    have HS0 := hide hs0
    clear hs0
    have HHA := hide (has_any (I := I) (unhide HL3) ((L.length : Int) - 1))
    generalize hasB (absL L) ((L.length : Int) - 1) = hb at *
    go_wp2_with fail
    refine (unhide HHA).mono ?_
    rintro e w4 ⟨rfl, hx4⟩
    have HX4 := hide ((unhide HX3).trans hx4)
    have HB4 := hide ((unhide HB3).ext hx4)
    clear q0 q1 q2 q3 q4 q5 HX3 HL3 HB3 HHA hx4
    obtain ⟨q0, q1, q2, q3, q4, q5⟩ := (unhide HB4).six
    cases hb with
    | false =>
      have E := hide (unhide HE (fun hok => by have := (unhide HV2).1 hok; simp at this))
      go_wp2
      go_ret
      rw [unhide E]
      exact ⟨rfl, unhide HX4⟩
    | true =>
      go_wp2_with fail
      refine (unhide T1 _).mono ?_
      rintro e w5 ⟨rfl, rfl⟩
      cases t1 with
      | false =>
        have E := hide (unhide HE (fun hok => by have := (unhide HV2).1 hok; simp at this))
        go_wp2
        go_ret
        rw [unhide E]
        exact ⟨rfl, unhide HX4⟩
      | true =>
        go_wp2_with fail
        refine (unhide T2 _).mono ?_
        rintro e w5 ⟨rfl, rfl⟩
        cases t2 with
        | false =>
          have E := hide (unhide HE (fun hok => by have := (unhide HV2).1 hok; simp at this))
          go_wp2
          go_ret
          rw [unhide E]
          exact ⟨rfl, unhide HX4⟩
        | true =>
          go_wp2_with fail
          refine (unhide T3 _).mono ?_
          rintro e w5 ⟨rfl, rfl⟩
          cases t3 with
          | false =>
            have E := hide (unhide HE (fun hok => by have := (unhide HV2).1 hok; simp at this))
            go_wp2
            go_ret
            rw [unhide E]
            exact ⟨rfl, unhide HX4⟩
          | true =>
            go_wp2_with fail
            refine (unhide T4 _).mono ?_
            rintro e w5 ⟨rfl, rfl⟩
            cases t4 with
            | false =>
              have E := hide (unhide HE (fun hok => by have := (unhide HV2).1 hok; simp at this))
              go_wp2
              go_ret
              rw [unhide E]
              exact ⟨rfl, unhide HX4⟩
            | true =>
              have E := hide (unhide HE2 ((unhide HV2).2 (by have h9 := unhide HS0; simp [h9])))
              go_wp2
              go_ret
              rw [unhide E]
              exact ⟨rfl, unhide HX4⟩
end
end Go.Proofs.Ytpjapdifmfpcnaa
