/-
  Vertices out of bytes: the document's read.
-/
import Derived.Test.YtmigakbccmkjoaaFEi
namespace Go.Proofs.Ytmigakbccmkjoaa
open Go.RowKit
set_option linter.unusedVariables false
set_option linter.unusedSimpArgs false

/-- What stands from place p on, j bytes behind, w in all. -/
def tlN (xs : List Int) (p w j : Nat) : Int := numOf ((xs.drop (p + j)).take (w - j))
theorem tlN_end (xs : List Int) (p w : Nat) : tlN xs p w w = 0 := by
  unfold tlN
  rw [Nat.sub_self]
  simp [numOf]
theorem tlN_step (xs : List Int) (p w j : Nat) (hj : j < w) (h : p + w ≤ xs.length) : tlN xs p w j = xs[p + j]'(by omega) + 256 * tlN xs p w (j + 1) := by
  unfold tlN
  have e : (xs.drop (p + j)).take (w - j) = (xs[p + j]'(by omega)) :: (xs.drop (p + (j + 1))).take (w - (j + 1)) := by
    rw [List.drop_eq_getElem_cons (by omega), show w - j = (w - (j + 1)) + 1 by omega, List.take_succ_cons]
    rfl
  rw [e]
  simp [numOf]
theorem tlN_bd (xs : List Int) (hB : Byt xs) (p w j : Nat) (hw : w ≤ 4) : 0 ≤ tlN xs p w j ∧ tlN xs p w j < 4294967296 := by
  unfold tlN
  have := numOf_le ((xs.drop (p + j)).take (w - j)) (hB.cut _ _) 4 (by simp; omega)
  omega

set_option maxRecDepth 10000 in
set_option maxHeartbeats 1000000 in
theorem rread_any (v : Value) (xs : List Int) (k : Int) (p : Nat) (w : World) (hr : Row .u8 w v xs) (hB : Byt xs) (hk : knwB k = true) (hp : p + widI k ≤ xs.length) (hm : xs.length ≤ 140737488355000) :
    Calls Try.prog 25 #[v, .int .i64 k, .int .i64 (p : Int)] w fun e w' => e = .returned (.int .i64 (rdF k ((xs.drop p).take (widI k)))) ∧ Ext w w' := by
  have HC := hide (fun w => rends_any k w hk)
  have HW := hide (fun w => rwidth_any k w)
  obtain ⟨hw1, hw4⟩ := wid_pos hk
  have HE := hide (tlN_end xs p (widI k))
  have HS := hide (fun j hj => tlN_step xs p (widI k) j hj hp)
  have HD := hide (fun j => tlN_bd xs hB p (widI k) j hw4)
  obtain ⟨ao, cap, rfl, hao, hlc, hcm⟩ := hr.shape
  have HR := hide hr
  have HB := hide hB
  unfold maxLen at hcm
  clear hr hB hao
  go_enter Try.func25, Try.ntmps25
  go_wp2_with (go_at_call 20; refine (unhide HW _).mono ?_; rintro e w1 ⟨rfl, hw⟩; obtain rfl := hw.symm)
  go_loopw [7, 9] (fun nv jv wr => ∃ j : Nat, j ≤ widI k ∧ nv = .int .i64 (tlN xs p (widI k) j) ∧ jv = .int .i64 ((j : Int) - 1) ∧ Ext w wr) (fun _ jv _ => (intOf jv + 1).toNat)
  case atStart => exact ⟨widI k, Nat.le_refl _, by rw [unhide HE], rfl, Ext.refl _⟩
  case round =>
    obtain ⟨j, hj, rfl, rfl, hX⟩ := hrel
    by_cases hlt : 1 ≤ j
    · obtain ⟨i, rfl⟩ : ∃ i, j = i + 1 := ⟨j - 1, by omega⟩
      obtain ⟨b, off, rfl, hc⟩ := ((unhide HR).ext hX).at (p + i) (by omega)
      have c0 := hc (p + i) (by omega)
      have hb := (unhide HB) _ (List.getElem_mem (show p + i < xs.length by omega))
      have hs := hide (unhide HS i (by omega))
      have hd := unhide HD (i + 1)
      have hd2 := unhide HD i
      rw [unhide hs] at hd2
      generalize xs[p + i] = x at *
      generalize tlN xs p (widI k) (i + 1) = t at *
      have ei : ((i + 1 : Nat) : Int) - 1 = (i : Int) := by omega
      rw [ei]
      have hX2 := hide hX
      clear hX hc ei
      go_wp2
      go_roundw
      case rel => exact ⟨i, by omega, by rw [unhide hs]; congr 1; omega, by go_num, unhide hX2⟩
      case measure => simp [intOf] <;> omega
    · obtain rfl : j = 0 := by omega
      have e0 : tlN xs p (widI k) 0 = numOf ((xs.drop p).take (widI k)) := by unfold tlN; rfl
      have hbd := numOf_le ((xs.drop p).take (widI k)) ((unhide HB).cut _ _) (widI k) (by simp; omega)
      have hd := hide (show rdF k ((xs.drop p).take (widI k)) = if k = 1 then sgn 128 (numOf ((xs.drop p).take (widI k))) else if k = 3 then sgn 32768 (numOf ((xs.drop p).take (widI k))) else if k = 5 then sgn 2147483648 (numOf ((xs.drop p).take (widI k))) else numOf ((xs.drop p).take (widI k)) from rfl)
      rw [e0]
      have hX2 := hide hX
      clear hX e0 HE HS HD HB HR
      generalize numOf ((xs.drop p).take (widI k)) = n at *
      rcases knw_cases hk with rfl | rfl | rfl | rfl | rfl
      · rw [show lstI 1 = -128 from rfl, show mstI 1 = 127 from rfl] at HC
        rw [show widI 1 = 1 from rfl] at hbd ⊢
        have hb2 : 0 ≤ n ∧ n < 256 := hbd
        have hy : rdF 1 ((xs.drop p).take (widI 1)) = if n < 128 then n else n - 256 := by rw [unhide hd]; rfl
        clear hd hbd
        by_cases hc : n < 128
        · rw [if_pos hc] at hy
          have HY := hide hy
          clear hy
          go_wp2_with (first | (go_at_call 27; refine (unhide HC _).mono ?_; rintro e w1 ⟨rfl, hw⟩; obtain rfl := hw.symm))
          go_ret
          exact ⟨by rw [unhide HY]; rfl, unhide hX2⟩
        · rw [if_neg hc] at hy
          have HY := hide hy
          clear hy
          go_wp2_with (first | (go_at_call 27; refine (unhide HC _).mono ?_; rintro e w1 ⟨rfl, hw⟩; obtain rfl := hw.symm))
          go_ret
          exact ⟨by rw [unhide HY]; rfl, unhide hX2⟩
      · rw [show lstI 2 = 0 from rfl, show mstI 2 = 255 from rfl] at HC
        rw [show widI 2 = 1 from rfl] at hbd ⊢
        have hb2 : 0 ≤ n ∧ n < 256 := hbd
        have HY : Hid (rdF 2 ((xs.drop p).take (widI 2)) = n) := by rw [Hid, unhide hd]; rfl
        clear hd hbd
        go_wp2_with (first | (go_at_call 27; refine (unhide HC _).mono ?_; rintro e w1 ⟨rfl, hw⟩; obtain rfl := hw.symm))
        go_ret
        exact ⟨by rw [unhide HY]; rfl, unhide hX2⟩
      · rw [show lstI 3 = -32768 from rfl, show mstI 3 = 32767 from rfl] at HC
        rw [show widI 3 = 2 from rfl] at hbd ⊢
        have hb2 : 0 ≤ n ∧ n < 65536 := hbd
        have hy : rdF 3 ((xs.drop p).take (widI 3)) = if n < 32768 then n else n - 65536 := by rw [unhide hd]; rfl
        clear hd hbd
        by_cases hc : n < 32768
        · rw [if_pos hc] at hy
          have HY := hide hy
          clear hy
          go_wp2_with (first | (go_at_call 27; refine (unhide HC _).mono ?_; rintro e w1 ⟨rfl, hw⟩; obtain rfl := hw.symm))
          go_ret
          exact ⟨by rw [unhide HY]; rfl, unhide hX2⟩
        · rw [if_neg hc] at hy
          have HY := hide hy
          clear hy
          go_wp2_with (first | (go_at_call 27; refine (unhide HC _).mono ?_; rintro e w1 ⟨rfl, hw⟩; obtain rfl := hw.symm))
          go_ret
          exact ⟨by rw [unhide HY]; rfl, unhide hX2⟩
      · rw [show lstI 4 = 0 from rfl, show mstI 4 = 65535 from rfl] at HC
        rw [show widI 4 = 2 from rfl] at hbd ⊢
        have hb2 : 0 ≤ n ∧ n < 65536 := hbd
        have HY : Hid (rdF 4 ((xs.drop p).take (widI 4)) = n) := by rw [Hid, unhide hd]; rfl
        clear hd hbd
        go_wp2_with (first | (go_at_call 27; refine (unhide HC _).mono ?_; rintro e w1 ⟨rfl, hw⟩; obtain rfl := hw.symm))
        go_ret
        exact ⟨by rw [unhide HY]; rfl, unhide hX2⟩
      · rw [show lstI 5 = -2147483648 from rfl, show mstI 5 = 2147483647 from rfl] at HC
        rw [show widI 5 = 4 from rfl] at hbd ⊢
        have hb2 : 0 ≤ n ∧ n < 4294967296 := hbd
        have hy : rdF 5 ((xs.drop p).take (widI 5)) = if n < 2147483648 then n else n - 4294967296 := by rw [unhide hd]; rfl
        clear hd hbd
        by_cases hc : n < 2147483648
        · rw [if_pos hc] at hy
          have HY := hide hy
          clear hy
          go_wp2_with (first | (go_at_call 27; refine (unhide HC _).mono ?_; rintro e w1 ⟨rfl, hw⟩; obtain rfl := hw.symm))
          go_ret
          exact ⟨by rw [unhide HY]; rfl, unhide hX2⟩
        · rw [if_neg hc] at hy
          have HY := hide hy
          clear hy
          go_wp2_with (first | (go_at_call 27; refine (unhide HC _).mono ?_; rintro e w1 ⟨rfl, hw⟩; obtain rfl := hw.symm))
          go_ret
          exact ⟨by rw [unhide HY]; rfl, unhide hX2⟩
end Go.Proofs.Ytmigakbccmkjoaa
