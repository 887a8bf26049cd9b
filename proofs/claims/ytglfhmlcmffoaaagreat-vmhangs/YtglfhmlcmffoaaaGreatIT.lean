/-
  Images: the walks of Count, firstWrong and Check.
-/
import Derived.Test.YtglfhmlcmffoaaaGreatIAJ
namespace Go.Proofs.YtglfhmlcmffoaaaGreat
open Go.RowKit
set_option linter.unusedVariables false
set_option linter.unusedSimpArgs false

set_option maxHeartbeats 1000000 in
theorem count_any (W H : Int) (w : World) :
    Calls Tryz.prog 193 #[.int .i64 W, .int .i64 H] w fun e w' => e = .returned (.int .i64 (cntI W H)) ∧ w' = w := by
  cases hw : sideB W with
  | false =>
    have E := hide (show cntI W H = 0 by simp [cntI, hw])
    go_enter Tryz.func193, Tryz.ntmps193
    go_wp2_with fail
    refine (isSide_any W _).mono ?_
    rintro e w1 ⟨rfl, rfl⟩
    rw [hw]
    clear hw
    go_wp2
    go_ret
    rw [unhide E]
    exact ⟨rfl, rfl⟩
  | true =>
    cases hh : sideB H with
    | false =>
      have E := hide (show cntI W H = 0 by simp [cntI, hh])
      go_enter Tryz.func193, Tryz.ntmps193
      go_wp2_with fail
      refine (isSide_any W _).mono ?_
      rintro e w1 ⟨rfl, rfl⟩
      rw [hw]
      clear hw
      go_wp2_with fail
      refine (isSide_any H _).mono ?_
      rintro e w1 ⟨rfl, rfl⟩
      rw [hh]
      clear hh
      go_wp2
      go_ret
      rw [unhide E]
      exact ⟨rfl, rfl⟩
    | true =>
      have E := hide (show cntI W H = (lgs W H : Int) + 1 by simp [cntI, hw, hh])
      have HW := hide (sideB_iff.1 hw)
      have HH := hide (sideB_iff.1 hh)
      have hl7 : lgs W H ≤ 6 := lg_le _
      go_enter Tryz.func193, Tryz.ntmps193
      go_wp2_with fail
      refine (isSide_any W _).mono ?_
      rintro e w1 ⟨rfl, rfl⟩
      rw [hw]
      clear hw
      go_wp2_with fail
      refine (isSide_any H _).mono ?_
      rintro e w2 ⟨rfl, rfl⟩
      rw [hh]
      clear hh
      go_wp2
      go_loopw [0, 1, 5] (fun a b i wr => ∃ k : Nat, k ≤ lgs W H ∧ a = .int .i64 (halfs W k) ∧ b = .int .i64 (halfs H k) ∧ i = .int .i64 ((k : Int) + 1) ∧ wr = w2) (fun _ _ i _ => 8 - (intOf i).toNat)
      case atStart => exact ⟨0, Nat.zero_le _, rfl, rfl, rfl, rfl⟩
      case round =>
        obtain ⟨k, hk, rfl, rfl, rfl, rfl⟩ := hrel
        have ha := halfs_side (unhide HW) k
        have hb := halfs_side (unhide HH) k
        have HS := hide (lgs_end (unhide HW) (unhide HH) hk)
        have EA := hide (show half (halfs W k) = halfs W (k + 1) from rfl)
        have EB := hide (show half (halfs H k) = halfs H (k + 1) from rfl)
        obtain ⟨a1, a2⟩ := ha
        obtain ⟨b1, b2⟩ := hb
        generalize halfs W k = a at *
        generalize halfs H k = b at *
        by_cases h1 : 1 < a
        · have hlt := (unhide HS).1 (.inl h1)
          go_wp2_with fail
          refine (half_any a _ (by omega) (by omega)).mono ?_
          rintro e w3 ⟨rfl, rfl⟩
          rw [unhide EA]
          go_wp2_with fail
          refine (half_any b _ (by omega) (by omega)).mono ?_
          rintro e w4 ⟨rfl, rfl⟩
          rw [unhide EB]
          go_wp2
          go_roundw
          case rel => exact ⟨k + 1, by omega, rfl, rfl, by go_num, by first | rfl | trivial⟩
          case measure => simp [intOf]; omega
        · by_cases h2 : 1 < b
          · have hlt := (unhide HS).1 (.inr h2)
            go_wp2_with fail
            refine (half_any a _ (by omega) (by omega)).mono ?_
            rintro e w3 ⟨rfl, rfl⟩
            rw [unhide EA]
            go_wp2_with fail
            refine (half_any b _ (by omega) (by omega)).mono ?_
            rintro e w4 ⟨rfl, rfl⟩
            rw [unhide EB]
            go_wp2
            go_roundw
            case rel => exact ⟨k + 1, by omega, rfl, rfl, by go_num, by first | rfl | trivial⟩
            case measure => simp [intOf]; omega
          · have hend : ¬ k < lgs W H := fun h => by
              rcases (unhide HS).2 h with h | h
              · exact h1 h
              · exact h2 h
            obtain rfl : k = lgs W H := by omega
            go_wp2
            go_ret
            rw [unhide E]
            exact ⟨rfl, rfl⟩

section
variable {w : World} {v : Value} {L : List Ent}
theorem wrong_step {s : Int} {A : List Lev} {k : Nat} (hk : k < A.length) (h : ∀ j (hj : j < k), lvB s (A[j]'(by omega)) = true) : (lvB s A[k] = true → ∀ j (hj : j < k + 1), lvB s (A[j]'(by omega)) = true) ∧ (lvB s A[k] = false → wrongAt s A = k) := by
  refine ⟨fun h1 j hj => ?_, fun h1 => ?_⟩
  · by_cases e : j = k
    · subst e
      exact h1
    · exact h j (by omega)
  · unfold wrongAt
    rw [List.findIdx_eq hk]
    refine ⟨by simp [h1], fun j hj => by simp [h j hj]⟩
theorem wrong_end {s : Int} {A : List Lev} (h : ∀ j (hj : j < A.length), lvB s A[j] = true) : wrongAt s A = A.length := by
  rw [wrongAt_all]
  intro l hl
  obtain ⟨j, hj, rfl⟩ := List.getElem_of_mem hl
  exact h j hj
theorem mul_side {a b s : Int} (ha : 1 ≤ a ∧ a ≤ 64) (hb : 1 ≤ b ∧ b ≤ 64) (hs : 0 ≤ s ∧ s ≤ 4) : 1 ≤ a * b ∧ a * b ≤ 4096 ∧ 0 ≤ a * b * s ∧ a * b * s ≤ 16384 := by
  have h1 : a * b ≤ 64 * 64 := Int.mul_le_mul ha.2 hb.2 (by omega) (by omega)
  have h2 : 1 * 1 ≤ a * b := Int.mul_le_mul ha.1 hb.1 (by omega) (by omega)
  have h3 : a * b * s ≤ 4096 * 4 := Int.mul_le_mul (by omega) hs.2 hs.1 (by omega)
  have h4 : 0 ≤ a * b * s := Int.mul_nonneg (by omega) hs.1
  omega

set_option maxRecDepth 10000 in
set_option maxHeartbeats 2000000 in
theorem firstWrong_any (h : LR w v L) (hL : L.length ≤ 1000) (s : Int) (hs : 0 ≤ s ∧ s ≤ 4) :
    Calls Tryz.prog 164 #[v, .int .i64 s] w fun e w' => e = .returned (.int .i64 (wrongAt s (absL L))) ∧ Ext w w' := by
  obtain ⟨ao, cap, rfl, hao, hlc, hcm, _⟩ := h.shape
  have hcm2 : cap ≤ 9223372036854775807 := by unfold maxLen at hcm; omega
  have HH := hide h
  have hal := absL_len L
  have HAL := hide hal
  have HS := hide hs
  clear h hao hcm hal
  go_enter Tryz.func164, Tryz.ntmps164
  go_wp2
  go_step3
  go_wp2
  go_step3
  go_wp2
  go_loopw [5] (fun i wr => ∃ k : Nat, k ≤ L.length ∧ i = .int .i64 (k : Int) ∧ (∀ j (hj : j < k) (hl : j < (absL L).length), lvB s (absL L)[j] = true) ∧ Ext w wr) (fun i _ => L.length - (intOf i).toNat)
  case atStart => exact ⟨0, Nat.zero_le _, rfl, fun j hj => by omega, Ext.refl _⟩
  case round =>
    obtain ⟨k, hk, rfl, hall, hX⟩ := hrel
    by_cases hlt : k < L.length
    · obtain ⟨b, off, bo, bcap, rfl, eb, c0, c1, c2, hr⟩ := ((unhide HH).ext hX).at k hlt
      have hlt2 : k < (absL L).length := by rw [unhide HAL]; exact hlt
      obtain ⟨st1, st2⟩ := wrong_step (s := s) hlt2 (fun j hj => hall j hj (by omega))
      rw [absL_get L k hlt] at st1 st2
      have ee : absE L[k] = (L[k].1, L[k].2.1, L[k].2.2.2) := rfl
      rw [ee] at st1 st2
      generalize L[k].1 = W at *
      generalize L[k].2.1 = H at *
      generalize L[k].2.2.2 = bs at *
      have hkn : (k : Int) < (L.length : Int) := by omega
      have ST1 := hide st1
      have ST2 := hide st2
      have HX := hide hX
      have HALL := hide hall
      clear st1 st2 hr eb hall hX
      by_cases n1 : noneB (W, H, bs) = true
      · obtain ⟨rfl, rfl, hb0⟩ := noneB_iff.1 n1
        simp only at hb0
        have hb1 : ((bs.length : Int) == 0) = true := by rw [beq_iff_eq]; omega
        have G := hide (unhide ST1 (by unfold lvB; rw [n1]; rfl))
        clear n1 hb0
        go_wp2
        go_roundw
        case rel => exact ⟨k + 1, by omega, by go_num, fun j hj hl => unhide G j hj, (unhide HX).alloc _⟩
        case measure => simp [intOf]; omega
      · have hN : noneB (W, H, bs) = false := by simpa using n1
        clear n1
        have goB : goodB s (W, H, bs) = (sideB W && (sideB H && ((bs.length : Int) == W * H * s))) := by
          unfold goodB sideB
          simp only [Bool.decide_and]
          congr 2
        have NN : Hid ((W == 0) = false ∨ ((W == 0) = true ∧ (H == 0) = false) ∨ ((W == 0) = true ∧ (H == 0) = true ∧ ((bs.length : Int) == 0) = false)) := by
          show _ ∨ _ ∨ _
          by_cases w0 : W = 0
          · by_cases h0 : H = 0
            · refine .inr (.inr ⟨by simp [w0], by simp [h0], ?_⟩)
              have : ¬ (W = 0 ∧ H = 0 ∧ bs.length = 0) := fun h => by
                rw [noneB_iff.2 h] at hN
                cases hN
              simp
              intro h
              exact this ⟨w0, h0, by simpa using h⟩
            · exact .inr (.inl ⟨by simp [w0], by simp [h0]⟩)
          · exact .inl (by simp [w0])
        have hlv : lvB s (W, H, bs) = goodB s (W, H, bs) := by unfold lvB; rw [hN]; rfl
        rw [hlv, goB] at ST1 ST2
        clear hlv goB hN
        cases hw : sideB W with
        | false =>
          have G := hide (unhide ST2 (by rw [hw]; rfl))
          have HW := hide hw
          clear hw
          rcases unhide NN with q | q | q
          · go_wp2_with fail
            refine (isSide_any W _).mono ?_
            rintro e w1 ⟨rfl, rfl⟩
            rw [unhide HW]
            go_wp2
            try rw [Exit.noGoto_ret]
            go_ret
            rw [unhide G]
            exact ⟨rfl, (unhide HX).alloc _⟩
          · obtain ⟨q1, q2⟩ := q
            go_wp2_with fail
            refine (isSide_any W _).mono ?_
            rintro e w1 ⟨rfl, rfl⟩
            rw [unhide HW]
            go_wp2
            try rw [Exit.noGoto_ret]
            go_ret
            rw [unhide G]
            exact ⟨rfl, (unhide HX).alloc _⟩
          · obtain ⟨q1, q2, q3⟩ := q
            go_wp2_with fail
            refine (isSide_any W _).mono ?_
            rintro e w1 ⟨rfl, rfl⟩
            rw [unhide HW]
            go_wp2
            try rw [Exit.noGoto_ret]
            go_ret
            rw [unhide G]
            exact ⟨rfl, (unhide HX).alloc _⟩
        | true =>
          have bw := sideB_iff.1 hw
          have q : (W == 0) = false := by simp; omega
          clear NN
          cases hh : sideB H with
          | false =>
            have G := hide (unhide ST2 (by rw [hw, hh]; rfl))
            have HW := hide hw
            have HHH := hide hh
            clear hw hh
            go_wp2_with fail
            refine (isSide_any W _).mono ?_
            rintro e w1 ⟨rfl, rfl⟩
            rw [unhide HW]
            go_wp2_with fail
            refine (isSide_any H _).mono ?_
            rintro e w1 ⟨rfl, rfl⟩
            rw [unhide HHH]
            go_wp2
            try rw [Exit.noGoto_ret]
            go_ret
            rw [unhide G]
            exact ⟨rfl, (unhide HX).alloc _⟩
          | true =>
            have bh := sideB_iff.1 hh
            obtain ⟨m1, m2, m3, m4⟩ := mul_side bw bh (unhide HS)
            obtain ⟨s1, s2⟩ := unhide HS
            obtain ⟨bw1, bw2⟩ := bw
            obtain ⟨bh1, bh2⟩ := bh
            have HW := hide hw
            have HHH := hide hh
            by_cases hbl : (bs.length : Int) = W * H * s
            · have hq : ((bs.length : Int) == W * H * s) = true := by simp [hbl]
              have G := hide (unhide ST1 (by rw [hw, hh, hq]; rfl))
              clear hw hh hbl
              go_wp2_with fail
              refine (isSide_any W _).mono ?_
              rintro e w1 ⟨rfl, rfl⟩
              rw [unhide HW]
              go_wp2_with fail
              refine (isSide_any H _).mono ?_
              rintro e w1 ⟨rfl, rfl⟩
              rw [unhide HHH]
              go_wp2
              go_roundw
              case rel => exact ⟨k + 1, by omega, by go_num, fun j hj hl => unhide G j hj, (unhide HX).alloc _⟩
              case measure => simp [intOf]; omega
            · have hq : ((bs.length : Int) == W * H * s) = false := by simp [hbl]
              have G := hide (unhide ST2 (by rw [hw, hh, hq]; rfl))
              clear hw hh hbl
              go_wp2_with fail
              refine (isSide_any W _).mono ?_
              rintro e w1 ⟨rfl, rfl⟩
              rw [unhide HW]
              go_wp2_with fail
              refine (isSide_any H _).mono ?_
              rintro e w1 ⟨rfl, rfl⟩
              rw [unhide HHH]
              go_wp2
              try rw [Exit.noGoto_ret]
              go_ret
              rw [unhide G]
              exact ⟨rfl, (unhide HX).alloc _⟩
    · obtain rfl : k = L.length := by omega
      have G := hide (wrong_end (s := s) (A := absL L) (fun j hj => hall j (by rw [← unhide HAL]; exact hj) hj))
      have HX := hide hX
      clear hall hX hlt
      go_wp2
      try rw [Exit.noGoto_ret]
      go_ret
      rw [unhide G, unhide HAL]
      exact ⟨rfl, unhide HX⟩
end
end Go.Proofs.YtglfhmlcmffoaaaGreat
