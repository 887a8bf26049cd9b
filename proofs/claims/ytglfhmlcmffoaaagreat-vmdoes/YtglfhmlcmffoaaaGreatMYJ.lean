/- Several texts in one. -/
import Derived.Test.YtglfhmlcmffoaaaGreatMX
import Derived.Test.YtglfhmlcmffoaaaGreatLemJ
import Derived.Laws.EntriesVeiled
/-
  The walks of the document's logarithms, and of the powers of whatever number. What the dump lacks is left out.
-/
namespace Go.Proofs.YtglfhmlcmffoaaaGreat
open Go.RowKit
set_option linter.unusedVariables false
set_option linter.unusedSimpArgs false

theorem pow31 {e : Nat} (h : e ≤ 30) : (0 : Int) < 2 ^ (e + 1) ∧ (2 : Int) ^ (e + 1) ≤ 2147483648 := ⟨pow2_pos _, pow2_le (b := 31) (by omega)⟩
theorem pow_small {e : Nat} {x : Int} (h : (2 : Int) ^ e ≤ x) (hx : x ≤ 2147483647) : e ≤ 30 := by
  rcases Nat.lt_or_ge 30 e with h1 | h1
  · have h2 : (2 : Int) ^ 31 ≤ 2 ^ e := pow2_le h1
    rw [show (2 : Int) ^ 31 = 2147483648 from rfl] at h2
    omega
  · exact h1

set_option maxHeartbeats 1000000 in
theorem refLog2_any (x : Int) (w : World) (h : I32 x) :
    Calls Tryz.prog 89 #[.int .i32 x] w fun e w' => e = .returned (.int .i32 (log2I x)) ∧ w' = w := by
  unfold I32 at h
  go_enter Tryz.func89, Tryz.ntmps89
  by_cases c : x ≤ 0
  · have hE := hide (show log2I x = -2147483648 by simp [log2I, c])
    go_wp2
    go_ret
    exact ⟨by rw [unhide hE]; rfl, rfl⟩
  · have HE := hide (show log2I x = 65536 * (lenI x - 16) + lgD (x * 2 ^ (30 - lenI x).toNat) 16 by simp [log2I, c])
    have HL := hide (lenI_is (x := x) (by omega) (by omega))
    go_wp2
    go_loopw [3] (fun v wr => ∃ e : Nat, e ≤ 30 ∧ v = .int .i64 e ∧ (2 : Int) ^ e ≤ x ∧ wr = w) (fun v _ => 31 - (intOf v).toNat)
    case atStart => exact ⟨0, by omega, rfl, by simp; omega, rfl⟩
    case round =>
      obtain ⟨e, he, rfl, hp, rfl⟩ := hrel
      have hb := pow31 he
      by_cases ct : (2 : Int) ^ (e + 1) ≤ x
      · have d : decide ((2 : Int) ^ (e + 1) ≤ x) = true := by simp; omega
        have hs := pow_small ct (by omega)
        have CT := hide ct
        clear ct hp
        go_wp2
        go_roundw
        case rel => exact ⟨e + 1, hs, by go_num, unhide CT, trivial⟩
        case measure => simp [intOf]; omega
      · have d : decide ((2 : Int) ^ (e + 1) ≤ x) = false := by simp; omega
        have hl : IsLen x e := ⟨by omega, by omega, by simpa using hp, by rw [Int.pow_succ] at ct; simp; omega⟩
        have hle := hl.unique (unhide HL)
        have hm := len_mul hl
        rw [← hle] at HE
        rw [show (30 - (e : Int)).toNat = 30 - e by omega] at hm HE
        clear hl hle HL hp ct
        go_wp2
        generalize x * 2 ^ (30 - e) = m at *
        have HB := hide (lgM_bounds hm.1 hm.2)
        go_loopw [4, 5, 21] (fun v d i ws => ∃ k : Nat, k ≤ 16 ∧ v = .int .i64 (lgM m k) ∧ d = .int .i64 (lgD m k) ∧ i = .int .i64 k ∧ ws = wr) (fun _ _ i _ => 16 - (intOf i).toNat)
        case atStart => exact ⟨0, by omega, rfl, rfl, rfl, rfl⟩
        case round =>
          obtain ⟨k, hk, rfl, rfl, rfl, rfl⟩ := hrel
          have hd := lgD_bounds m k
          have hp : (2 : Int) ^ k ≤ 65536 := pow2_le (b := 16) (by omega)
          by_cases hlt : k < 16
          · have hk16 : (k : Int) < 16 := by omega
            have hb := unhide HB k
            have hs := sq_bounds hb.1 hb.2
            have E1 := hide (lgM_succ m k)
            have E2 := hide (lgD_succ m k)
            generalize lgM m k = v at *
            generalize lgD m k = d at *
            by_cases c : 2147483648 ≤ v * v / 1073741824
            · have t1 : decide (2147483648 ≤ v * v / 1073741824) = true := by simp; omega
              have F1 := hide ((unhide E1).trans (if_pos c))
              have F2 := hide ((unhide E2).trans (if_pos c))
              clear E1 E2
              go_wp2
              go_roundw
              case rel => exact ⟨k + 1, by omega, by rw [unhide F1], by rw [unhide F2]; go_num, by go_num, trivial⟩
              case measure => simp [intOf]; omega
            · have t1 : decide (2147483648 ≤ v * v / 1073741824) = false := by simp; omega
              have F1 := hide ((unhide E1).trans (if_neg c))
              have F2 := hide ((unhide E2).trans (if_neg c))
              clear E1 E2
              go_wp2
              go_roundw
              case rel => exact ⟨k + 1, by omega, by rw [unhide F1], by rw [unhide F2]; go_num, by go_num, trivial⟩
              case measure => simp [intOf]; omega
          · obtain rfl : k = 16 := by omega
            generalize lgD m 16 = d at *
            go_wp2
            go_ret
            refine ⟨?_, rfl⟩
            rw [unhide HE]
            simp
            omega

/-- The raw of x to the power of y. -/
def powerI (x y : Int) : Int := if x ≤ 0 then 0 else exp2I (mulI y (log2I x))

theorem powOf_any (x y : Int) (w : World) (hx : I32 x) (hy : I32 y) :
    Calls Tryz.prog 189 #[.int .i32 x, .int .i32 y] w fun e w' => e = .returned (.int .i32 (powerI x y)) ∧ Ext w w' := by
  have HX := hide hx
  unfold I32 at hx
  go_enter Tryz.func189, Tryz.ntmps189
  by_cases c : x ≤ 0
  · have hE := hide (show powerI x y = 0 by simp [powerI, c])
    go_wp2
    go_ret
    exact ⟨by rw [unhide hE]; rfl, Ext.refl _⟩
  · have hE := hide (show powerI x y = exp2I (mulI y (log2I x)) by simp [powerI, c])
    go_wp2_with fail
    refine (log2_any _ _ (unhide HX)).mono ?_
    rintro e w1 ⟨rfl, m, rfl⟩
    go_wp2_with fail
    refine (mul_any _ _ _ hy (log2I_i32 (unhide HX))).mono ?_
    rintro e w1 ⟨rfl, rfl⟩
    go_wp2_with fail
    refine (exp2_any _ _ (mulI_i32 _ _)).mono ?_
    rintro e w2 ⟨rfl, hx2⟩
    have X := hide (((Ext.refl w).drewN m).trans hx2)
    clear hx2
    go_wp2
    go_ret
    exact ⟨by rw [unhide hE]; rfl, unhide X⟩

theorem refPowOf_any (x y : Int) (w : World) (hx : I32 x) (hy : I32 y) :
    Calls Tryz.prog 59 #[.int .i32 x, .int .i32 y] w fun e w' => e = .returned (.int .i32 (powerI x y)) ∧ Ext w w' := by
  have HX := hide hx
  unfold I32 at hx
  go_enter Tryz.func59, Tryz.ntmps59
  by_cases c : x ≤ 0
  · have hE := hide (show powerI x y = 0 by simp [powerI, c])
    go_wp2
    go_ret
    exact ⟨by rw [unhide hE]; rfl, Ext.refl _⟩
  · have hE := hide (show powerI x y = exp2I (mulI y (log2I x)) by simp [powerI, c])
    go_wp2_with fail
    refine (refLog2_any _ _ (unhide HX)).mono ?_
    rintro e w1 ⟨rfl, rfl⟩
    go_wp2_with fail
    refine (refMul_any _ _ _ hy (log2I_i32 (unhide HX))).mono ?_
    rintro e w1 ⟨rfl, rfl⟩
    go_wp2_with fail
    refine (refExp2_any _ _ (mulI_i32 _ _)).mono ?_
    rintro e w2 ⟨rfl, hx2⟩
    have X := hide hx2
    clear hx2
    go_wp2
    go_ret
    exact ⟨by rw [unhide hE]; rfl, unhide X⟩

end Go.Proofs.YtglfhmlcmffoaaaGreat

/-
  Plain facts on sines, by a sum of odd powers. Nothing here speaks of the program.
-/
namespace Go.Proofs.YtglfhmlcmffoaaaGreat
set_option linter.unusedVariables false

/-- The sum's numbers. -/
def cI (k : Nat) : Int := [5026995, 85569306, 693598668, 1686629713].getD k 0
/-- The sum, from the highest power on. -/
def yI (s : Int) : Nat → Int
  | 0 => 172272
  | k + 1 => cI k - yI s k * s / 1073741824
/-- What the sum is at most. -/
def ctI : Nat → Int
  | 0 => 172272
  | k + 1 => cI k
theorem ct_up : ∀ k, k < 4 → ctI k ≤ cI k := by decide
theorem ct_top : ∀ k, k < 5 → ctI k ≤ 1686629713 := by decide
theorem yI_bounds {s : Int} (h0 : 0 ≤ s) (h1 : s ≤ 1073741824) : ∀ k, k ≤ 4 → 0 ≤ yI s k ∧ yI s k ≤ ctI k
  | 0, _ => by simp [yI, ctI]
  | k + 1, hk => by
    have ih := yI_bounds h0 h1 k (by omega)
    have hc := ct_up k (by omega)
    have h2 : 0 ≤ yI s k * s := Int.mul_nonneg ih.1 h0
    have h3 : yI s k * s ≤ yI s k * 1073741824 := Int.mul_le_mul_of_nonneg_left h1 ih.1
    rw [show yI s (k + 1) = cI k - yI s k * s / 1073741824 from rfl, show ctI (k + 1) = cI k from rfl]
    omega
theorem y_mul {s : Int} (h0 : 0 ≤ s) (h1 : s ≤ 1073741824) {k : Nat} (hk : k ≤ 4) {r : Int} (hr : 0 ≤ r) (hr1 : r ≤ 1073741824) : 0 ≤ yI s k * r ∧ yI s k * r ≤ 1811004864449216512 := by
  have hy := yI_bounds h0 h1 k hk
  have ht := ct_top k (by omega)
  refine ⟨Int.mul_nonneg hy.1 hr, ?_⟩
  have h2 : yI s k * r ≤ 1686629713 * r := Int.mul_le_mul_of_nonneg_right (by omega) hr
  omega
theorem rr_bounds {r : Int} (h0 : 0 ≤ r) (h1 : r ≤ 1073741824) : 0 ≤ r * r ∧ r * r ≤ 1152921504606846976 := by
  refine ⟨Int.mul_nonneg h0 h0, ?_⟩
  have : r * r ≤ 1073741824 * 1073741824 := Int.mul_le_mul h1 h1 h0 (by omega)
  omega
/-- The raw of the sine of a phase within the first quarter. -/
def fsI (r : Int) : Int := min ((yI (r * r / 1073741824) 4 * r / 1073741824 + 8192) / 16384) 65536
theorem fsI_bounds {r : Int} (h0 : 0 ≤ r) (h1 : r ≤ 1073741824) : 0 ≤ fsI r ∧ fsI r ≤ 65536 := by
  have hb := rr_bounds h0 h1
  have hm := y_mul (s := r * r / 1073741824) (by omega) (by omega) (k := 4) (by omega) h0 h1
  unfold fsI
  generalize yI (r * r / 1073741824) 4 * r = z at *
  omega
/-- A phase as one of the first quarter. -/
def foldI (p : Int) : Int := if p / 1073741824 % 2 = 1 then 1073741824 - p % 1073741824 else p % 1073741824
theorem foldI_bounds (p : Int) : 0 ≤ foldI p ∧ foldI p ≤ 1073741824 := by unfold foldI; split <;> omega
/-- The raw of the sine of a phase. -/
def sineI (p : Int) : Int := if 2 ≤ p / 1073741824 then -fsI (foldI p) else fsI (foldI p)
theorem sineI_bounds (p : Int) : -65536 ≤ sineI p ∧ sineI p ≤ 65536 := by
  have h := foldI_bounds p
  have h2 := fsI_bounds h.1 h.2
  unfold sineI
  split <;> omega
/-- The phase of the number of raw x. -/
def phaseI (x : Int) : Int := x * 683565276 / 65536 % 4294967296
theorem phaseI_bounds (x : Int) : 0 ≤ phaseI x ∧ phaseI x < 4294967296 := by unfold phaseI; omega
def sinI (x : Int) : Int := sineI (phaseI x)
def cosI (x : Int) : Int := sineI ((phaseI x + 1073741824) % 4294967296)
end Go.Proofs.YtglfhmlcmffoaaaGreat

/-
  The walks of maths' sines. What the dump lacks is left out.
-/
namespace Go.Proofs.YtglfhmlcmffoaaaGreat
open Go.RowKit
set_option linter.unusedVariables false
set_option linter.unusedSimpArgs false

theorem indexC (k : Nat) (hk : k < 4) (w : World) : (Instr.index 166 (.agg #[.int .i64 5026995, .int .i64 85569306, .int .i64 693598668, .int .i64 1686629713]) (.int .i64 k)).run Tryz.prog w = .ok (.int .i64 (cI k)) w := by
  rcases (by omega : k = 0 ∨ k = 1 ∨ k = 2 ∨ k = 3) with rfl | rfl | rfl | rfl <;> kernel_rfl

set_option maxHeartbeats 1000000 in
theorem first_any (r : Int) (w : World) (h0 : 0 ≤ r) (h1 : r ≤ 1073741824) :
    Calls Tryz.prog 220 #[.int .i64 r] w fun e w' => e = .returned (.int .i32 (fsI r)) ∧ w' = w := by
  have hb := rr_bounds h0 h1
  have hs0 : 0 ≤ r * r / 1073741824 := by omega
  have hs1 : r * r / 1073741824 ≤ 1073741824 := by omega
  have HF : Hid (fsI r = min ((yI (r * r / 1073741824) 4 * r / 1073741824 + 8192) / 16384) 65536) := rfl
  have hf := fsI_bounds h0 h1
  go_enter Tryz.func220, Tryz.ntmps220
  go_wp2
  generalize hs : r * r / 1073741824 = s at *
  clear hs
  go_loopw [4, 13] (fun y i wr => ∃ k : Nat, k ≤ 4 ∧ y = .int .i64 (yI s k) ∧ i = .int .i64 k ∧ wr = w) (fun _ i _ => 4 - (intOf i).toNat)
  case atStart => exact ⟨0, by omega, rfl, rfl, rfl⟩
  case round =>
    obtain ⟨k, hk, rfl, rfl, rfl⟩ := hrel
    by_cases hlt : k < 4
    · have hk4 : (k : Int) < 4 := by omega
      have hix := indexC k hlt
      have hm := y_mul (s := s) hs0 hs1 (k := k) (by omega) hs0 hs1
      have hy := yI_bounds (s := s) hs0 hs1 (k + 1) (by omega)
      have hc := ct_top (k + 1) (by omega)
      have E : Hid (yI s (k + 1) = cI k - yI s k * s / 1073741824) := rfl
      rw [unhide E] at hy
      rw [show ctI (k + 1) = cI k from rfl] at hy hc
      generalize yI s k = y at *
      generalize cI k = c at *
      go_wp2
      go_roundw
      case rel => exact ⟨k + 1, by omega, by rw [unhide E], by go_num, trivial⟩
      case measure => simp [intOf]; omega
    · obtain rfl : k = 4 := by omega
      have hm := y_mul (s := s) hs0 hs1 (k := 4) (by omega) h0 h1
      generalize yI s 4 = y at *
      go_wp2
      all_goals go_ret
      all_goals refine ⟨?_, rfl⟩
      all_goals rw [unhide HF]
      all_goals simp
      all_goals omega

theorem phase_any (x : Int) (w : World) (h : I32 x) :
    Calls Tryz.prog 212 #[.int .i32 x] w fun e w' => e = .returned (.int .u32 (phaseI x)) ∧ w' = w := by
  unfold I32 at h
  go_enter Tryz.func212, Tryz.ntmps212
  go_wp2
  go_ret
  exact ⟨rfl, rfl⟩

set_option maxHeartbeats 1000000 in
theorem sine_any (p : Int) (w : World) (h0 : 0 ≤ p) (h1 : p < 4294967296) :
    Calls Tryz.prog 211 #[.int .u32 p] w fun e w' => e = .returned (.int .i32 (sineI p)) ∧ w' = w := by
  have hS : Hid (sineI p = if 2 ≤ p / 1073741824 then -fsI (foldI p) else fsI (foldI p)) := rfl
  have hf := fsI_bounds (foldI_bounds p).1 (foldI_bounds p).2
  go_enter Tryz.func211, Tryz.ntmps211
  by_cases c : p / 1073741824 % 2 = 1
  · have d : (p / 1073741824 % 2 == 1) = true := by simp; omega
    have E := hide (show 1073741824 - p % 1073741824 = foldI p by unfold foldI; rw [if_pos c])
    go_wp2_with fail
    refine (first_any _ _ (by omega) (by omega)).mono ?_
    rintro e w1 ⟨rfl, rfl⟩
    rw [unhide E]
    generalize fsI (foldI p) = z at *
    by_cases c2 : 2 ≤ p / 1073741824
    · have d2 : decide (2 ≤ p / 1073741824) = true := by simp; omega
      have S2 := hide ((unhide hS).trans (if_pos c2))
      go_wp2
      go_ret
      exact ⟨by rw [unhide S2]; rfl, rfl⟩
    · have d2 : decide (2 ≤ p / 1073741824) = false := by simp; omega
      have S2 := hide ((unhide hS).trans (if_neg c2))
      go_wp2
      go_ret
      exact ⟨by rw [unhide S2]; rfl, rfl⟩
  · have d : (p / 1073741824 % 2 == 1) = false := by simp; omega
    have E := hide (show p % 1073741824 = foldI p by unfold foldI; rw [if_neg c])
    go_wp2_with fail
    refine (first_any _ _ (by omega) (by omega)).mono ?_
    rintro e w1 ⟨rfl, rfl⟩
    rw [unhide E]
    generalize fsI (foldI p) = z at *
    by_cases c2 : 2 ≤ p / 1073741824
    · have d2 : decide (2 ≤ p / 1073741824) = true := by simp; omega
      have S2 := hide ((unhide hS).trans (if_pos c2))
      go_wp2
      go_ret
      exact ⟨by rw [unhide S2]; rfl, rfl⟩
    · have d2 : decide (2 ≤ p / 1073741824) = false := by simp; omega
      have S2 := hide ((unhide hS).trans (if_neg c2))
      go_wp2
      go_ret
      exact ⟨by rw [unhide S2]; rfl, rfl⟩

theorem sin_any (x : Int) (w : World) (h : I32 x) :
    Calls Tryz.prog 187 #[.int .i32 x] w fun e w' => e = .returned (.int .i32 (sinI x)) ∧ w' = w := by
  have hp := phaseI_bounds x
  go_enter Tryz.func187, Tryz.ntmps187
  go_wp2_with fail
  refine (phase_any _ _ h).mono ?_
  rintro e w1 ⟨rfl, rfl⟩
  go_wp2_with fail
  refine (sine_any _ _ hp.1 hp.2).mono ?_
  rintro e w1 ⟨rfl, rfl⟩
  go_wp2
  go_ret
  exact ⟨rfl, rfl⟩

theorem cos_any (x : Int) (w : World) (h : I32 x) :
    Calls Tryz.prog 188 #[.int .i32 x] w fun e w' => e = .returned (.int .i32 (cosI x)) ∧ w' = w := by
  have hp := phaseI_bounds x
  go_enter Tryz.func188, Tryz.ntmps188
  go_wp2_with fail
  refine (phase_any _ _ h).mono ?_
  rintro e w1 ⟨rfl, rfl⟩
  go_wp2_with fail
  refine (sine_any _ _ (by omega) (by omega)).mono ?_
  rintro e w1 ⟨rfl, rfl⟩
  go_wp2
  go_ret
  exact ⟨rfl, rfl⟩

end Go.Proofs.YtglfhmlcmffoaaaGreat

