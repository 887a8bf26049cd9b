/- Several texts in one. -/
import Derived.Test.YtglfhmlcmffoaaaGreatMX
import Derived.Test.YtglfhmlcmffoaaaGreatLemJ
import Derived.Laws.EntriesVeiled
/-
  The walks of the document's logarithms, and of the powers of whatever number. What the dump lacks is left out.
-/
namespace Go.Proofs.YtglfhmlcmffoaaaGreat
open Go.RowKit
set_option linter.unusedVariables false
set_option linter.unusedSimpArgs false

theorem pow31 {e : Nat} (h : e ≤ 30) : (0 : Int) < 2 ^ (e + 1) ∧ (2 : Int) ^ (e + 1) ≤ 2147483648 := ⟨pow2_pos _, pow2_le (b := 31) (by omega)⟩
theorem pow_small {e : Nat} {x : Int} (h : (2 : Int) ^ e ≤ x) (hx : x ≤ 2147483647) : e ≤ 30 := by
  rcases Nat.lt_or_ge 30 e with h1 | h1
  · have h2 : (2 : Int) ^ 31 ≤ 2 ^ e := pow2_le h1
    rw [show (2 : Int) ^ 31 = 2147483648 from rfl] at h2
    omega
  · exact h1

set_option maxHeartbeats 1000000 in
theorem refLog2_any (x : Int) (w : World) (h : I32 x) :
    Calls Tryz.prog 89 #[.int .i32 x] w fun e w' => e = .returned (.int .i32 (log2I x)) ∧ w' = w := by
  unfold I32 at h
  go_enter Tryz.func89, Tryz.ntmps89
  by_cases c : x ≤ 0
  · have hE := hide (show log2I x = -2147483648 by simp [log2I, c])
    go_wp2
    go_ret
    exact ⟨by rw [unhide hE]; rfl, rfl⟩
  · have HE := hide (show log2I x = 65536 * (lenI x - 16) + lgD (x * 2 ^ (30 - lenI x).toNat) 16 by simp [log2I, c])
    have HL := hide (lenI_is (x := x) (by omega) (by omega))
    go_wp2
    go_loopw [3] (fun v wr => ∃ e : Nat, e ≤ 30 ∧ v = .int .i64 e ∧ (2 : Int) ^ e ≤ x ∧ wr = w) (fun v _ => 31 - (intOf v).toNat)
    case atStart => exact ⟨0, by omega, rfl, by simp; omega, rfl⟩
    case round =>
      obtain ⟨e, he, rfl, hp, rfl⟩ := hrel
      have hb := pow31 he
      by_cases ct : (2 : Int) ^ (e + 1) ≤ x
      · have d : decide ((2 : Int) ^ (e + 1) ≤ x) = true := by simp; omega
        have hs := pow_small ct (by omega)
        have CT := hide ct
        clear ct hp
        go_wp2
        go_roundw
        case rel => exact ⟨e + 1, hs, by go_num, unhide CT, trivial⟩
        case measure => simp [intOf]; omega
      · have d : decide ((2 : Int) ^ (e + 1) ≤ x) = false := by simp; omega
        have hl : IsLen x e := ⟨by omega, by omega, by simpa using hp, by rw [Int.pow_succ] at ct; simp; omega⟩
        have hle := hl.unique (unhide HL)
        have hm := len_mul hl
        rw [← hle] at HE
        rw [show (30 - (e : Int)).toNat = 30 - e by omega] at hm HE
        clear hl hle HL hp ct
        go_wp2
        generalize x * 2 ^ (30 - e) = m at *
        have HB := hide (lgM_bounds hm.1 hm.2)
        go_loopw [4, 5, 21] (fun v d i ws => ∃ k : Nat, k ≤ 16 ∧ v = .int .i64 (lgM m k) ∧ d = .int .i64 (lgD m k) ∧ i = .int .i64 k ∧ ws = wr) (fun _ _ i _ => 16 - (intOf i).toNat)
        case atStart => exact ⟨0, by omega, rfl, rfl, rfl, rfl⟩
        case round =>
          obtain ⟨k, hk, rfl, rfl, rfl, rfl⟩ := hrel
          have hd := lgD_bounds m k
          have hp : (2 : Int) ^ k ≤ 65536 := pow2_le (b := 16) (by omega)
          by_cases hlt : k < 16
          · have hk16 : (k : Int) < 16 := by omega
            have hb := unhide HB k
            have hs := sq_bounds hb.1 hb.2
            have E1 := hide (lgM_succ m k)
            have E2 := hide (lgD_succ m k)
            generalize lgM m k = v at *
            generalize lgD m k = d at *
            by_cases c : 2147483648 ≤ v * v / 1073741824
            · have t1 : decide (2147483648 ≤ v * v / 1073741824) = true := by simp; omega
              have F1 := hide ((unhide E1).trans (if_pos c))
              have F2 := hide ((unhide E2).trans (if_pos c))
              clear E1 E2
              go_wp2
              go_roundw
              case rel => exact ⟨k + 1, by omega, by rw [unhide F1], by rw [unhide F2]; go_num, by go_num, trivial⟩
              case measure => simp [intOf]; omega
            · have t1 : decide (2147483648 ≤ v * v / 1073741824) = false := by simp; omega
              have F1 := hide ((unhide E1).trans (if_neg c))
              have F2 := hide ((unhide E2).trans (if_neg c))
              clear E1 E2
              go_wp2
              go_roundw
              case rel => exact ⟨k + 1, by omega, by rw [unhide F1], by rw [unhide F2]; go_num, by go_num, trivial⟩
              case measure => simp [intOf]; omega
          · obtain rfl : k = 16 := by omega
            generalize lgD m 16 = d at *
            go_wp2
            go_ret
            refine ⟨?_, rfl⟩
            rw [unhide HE]
            simp
            omega

/-- The raw of x to the power of y. -/
def powerI (x y : Int) : Int := if x ≤ 0 then 0 else exp2I (mulI y (log2I x))

theorem powOf_any (x y : Int) (w : World) (hx : I32 x) (hy : I32 y) :
    Calls Tryz.prog 189 #[.int .i32 x, .int .i32 y] w fun e w' => e = .returned (.int .i32 (powerI x y)) ∧ Ext w w' := by
  have HX := hide hx
  unfold I32 at hx
  go_enter Tryz.func189, Tryz.ntmps189
  by_cases c : x ≤ 0
  · have hE := hide (show powerI x y = 0 by simp [powerI, c])
    go_wp2
    go_ret
    exact ⟨by rw [unhide hE]; rfl, Ext.refl _⟩
  · have hE := hide (show powerI x y = exp2I (mulI y (log2I x)) by simp [powerI, c])
    go_wp2_with fail
    refine (log2_any _ _ (unhide HX)).mono ?_
    rintro e w1 ⟨rfl, m, rfl⟩
    go_wp2_with fail
    refine (mul_any _ _ _ hy (log2I_i32 (unhide HX))).mono ?_
    rintro e w1 ⟨rfl, rfl⟩
    go_wp2_with fail
    refine (exp2_any _ _ (mulI_i32 _ _)).mono ?_
    rintro e w2 ⟨rfl, hx2⟩
    have X := hide (((Ext.refl w).drewN m).trans hx2)
    clear hx2
    go_wp2
    go_ret
    exact ⟨by rw [unhide hE]; rfl, unhide X⟩

theorem refPowOf_any (x y : Int) (w : World) (hx : I32 x) (hy : I32 y) :
    Calls Tryz.prog 59 #[.int .i32 x, .int .i32 y] w fun e w' => e = .returned (.int .i32 (powerI x y)) ∧ Ext w w' := by
  have HX := hide hx
  unfold I32 at hx
  go_enter Tryz.func59, Tryz.ntmps59
  by_cases c : x ≤ 0
  · have hE := hide (show powerI x y = 0 by simp [powerI, c])
    go_wp2
    go_ret
    exact ⟨by rw [unhide hE]; rfl, Ext.refl _⟩
  · have hE := hide (show powerI x y = exp2I (mulI y (log2I x)) by simp [powerI, c])
    go_wp2_with fail
    refine (refLog2_any _ _ (unhide HX)).mono ?_
    rintro e w1 ⟨rfl, rfl⟩
    go_wp2_with fail
    refine (refMul_any _ _ _ hy (log2I_i32 (unhide HX))).mono ?_
    rintro e w1 ⟨rfl, rfl⟩
    go_wp2_with fail
    refine (refExp2_any _ _ (mulI_i32 _ _)).mono ?_
    rintro e w2 ⟨rfl, hx2⟩
    have X := hide hx2
    clear hx2
    go_wp2
    go_ret
    exact ⟨by rw [unhide hE]; rfl, unhide X⟩

end Go.Proofs.YtglfhmlcmffoaaaGreat

/-
  Plain facts on sines, by a sum of odd powers. Nothing here speaks of the program.
-/
namespace Go.Proofs.YtglfhmlcmffoaaaGreat
set_option linter.unusedVariables false

/-- The sum's numbers. -/
def cI (k : Nat) : Int := [5026995, 85569306, 693598668, 1686629713].getD k 0
/-- The sum, from the highest power on. -/
def yI (s : Int) : Nat → Int
  | 0 => 172272
  | k + 1 => cI k - yI s k * s / 1073741824
/-- What the sum is at most. -/
def ctI : Nat → Int
  | 0 => 172272
  | k + 1 => cI k
theorem ct_up : ∀ k, k < 4 → ctI k ≤ cI k := by decide
theorem ct_top : ∀ k, k < 5 → ctI k ≤ 1686629713 := by decide
theorem yI_bounds {s : Int} (h0 : 0 ≤ s) (h1 : s ≤ 1073741824) : ∀ k, k ≤ 4 → 0 ≤ yI s k ∧ yI s k ≤ ctI k
  | 0, _ => by simp [yI, ctI]
  | k + 1, hk => by
    have ih := yI_bounds h0 h1 k (by omega)
    have hc := ct_up k (by omega)
    have h2 : 0 ≤ yI s k * s := Int.mul_nonneg ih.1 h0
    have h3 : yI s k * s ≤ yI s k * 1073741824 := Int.mul_le_mul_of_nonneg_left h1 ih.1
    rw [show yI s (k + 1) = cI k - yI s k * s / 1073741824 from rfl, show ctI (k + 1) = cI k from rfl]
    omega
theorem y_mul {s : Int} (h0 : 0 ≤ s) (h1 : s ≤ 1073741824) {k : Nat} (hk : k ≤ 4) {r : Int} (hr : 0 ≤ r) (hr1 : r ≤ 1073741824) : 0 ≤ yI s k * r ∧ yI s k * r ≤ 1811004864449216512 := by
  have hy := yI_bounds h0 h1 k hk
  have ht := ct_top k (by omega)
  refine ⟨Int.mul_nonneg hy.1 hr, ?_⟩
  have h2 : yI s k * r ≤ 1686629713 * r := Int.mul_le_mul_of_nonneg_right (by omega) hr
  omega
theorem rr_bounds {r : Int} (h0 : 0 ≤ r) (h1 : r ≤ 1073741824) : 0 ≤ r * r ∧ r * r ≤ 1152921504606846976 := by
  refine ⟨Int.mul_nonneg h0 h0, ?_⟩
  have : r * r ≤ 1073741824 * 1073741824 := Int.mul_le_mul h1 h1 h0 (by omega)
  omega
/-- The raw of the sine of a phase within the first quarter. -/
def fsI (r : Int) : Int := min ((yI (r * r / 1073741824) 4 * r / 1073741824 + 8192) / 16384) 65536
theorem fsI_bounds {r : Int} (h0 : 0 ≤ r) (h1 : r ≤ 1073741824) : 0 ≤ fsI r ∧ fsI r ≤ 65536 := by
  have hb := rr_bounds h0 h1
  have hm := y_mul (s := r * r / 1073741824) (by omega) (by omega) (k := 4) (by omega) h0 h1
  unfold fsI
  generalize yI (r * r / 1073741824) 4 * r = z at *
  omega
/-- A phase as one of the first quarter. -/
def foldI (p : Int) : Int := if p / 1073741824 % 2 = 1 then 1073741824 - p % 1073741824 else p % 1073741824
theorem foldI_bounds (p : Int) : 0 ≤ foldI p ∧ foldI p ≤ 1073741824 := by unfold foldI; split <;> omega
/-- The raw of the sine of a phase. -/
def sineI (p : Int) : Int := if 2 ≤ p / 1073741824 then -fsI (foldI p) else fsI (foldI p)
theorem sineI_bounds (p : Int) : -65536 ≤ sineI p ∧ sineI p ≤ 65536 := by
  have h := foldI_bounds p
  have h2 := fsI_bounds h.1 h.2
  unfold sineI
  split <;> omega
/-- The phase of the number of raw x. -/
def phaseI (x : Int) : Int := x * 683565276 / 65536 % 4294967296
theorem phaseI_bounds (x : Int) : 0 ≤ phaseI x ∧ phaseI x < 4294967296 := by unfold phaseI; omega
def sinI (x : Int) : Int := sineI (phaseI x)
def cosI (x : Int) : Int := sineI ((phaseI x + 1073741824) % 4294967296)
end Go.Proofs.YtglfhmlcmffoaaaGreat

/-
  The walks of maths' sines. What the dump lacks is left out.
-/
namespace Go.Proofs.YtglfhmlcmffoaaaGreat
open Go.RowKit
set_option linter.unusedVariables false
set_option linter.unusedSimpArgs false

theorem indexC (k : Nat) (hk : k < 4) (w : World) : (Instr.index 166 (.agg #[.int .i64 5026995, .int .i64 85569306, .int .i64 693598668, .int .i64 1686629713]) (.int .i64 k)).run Tryz.prog w = .ok (.int .i64 (cI k)) w := by
  rcases (by omega : k = 0 ∨ k = 1 ∨ k = 2 ∨ k = 3) with rfl | rfl | rfl | rfl <;> kernel_rfl

set_option maxHeartbeats 1000000 in
theorem first_any (r : Int) (w : World) (h0 : 0 ≤ r) (h1 : r ≤ 1073741824) :
    Calls Tryz.prog 220 #[.int .i64 r] w fun e w' => e = .returned (.int .i32 (fsI r)) ∧ w' = w := by
  have hb := rr_bounds h0 h1
  have hs0 : 0 ≤ r * r / 1073741824 := by omega
  have hs1 : r * r / 1073741824 ≤ 1073741824 := by omega
  have HF : Hid (fsI r = min ((yI (r * r / 1073741824) 4 * r / 1073741824 + 8192) / 16384) 65536) := rfl
  have hf := fsI_bounds h0 h1
  go_enter Tryz.func220, Tryz.ntmps220
  go_wp2
  generalize hs : r * r / 1073741824 = s at *
  clear hs
  go_loopw [4, 13] (fun y i wr => ∃ k : Nat, k ≤ 4 ∧ y = .int .i64 (yI s k) ∧ i = .int .i64 k ∧ wr = w) (fun _ i _ => 4 - (intOf i).toNat)
  case atStart => exact ⟨0, by omega, rfl, rfl, rfl⟩
  case round =>
    obtain ⟨k, hk, rfl, rfl, rfl⟩ := hrel
    by_cases hlt : k < 4
    · have hk4 : (k : Int) < 4 := by omega
      have hix := indexC k hlt
      have hm := y_mul (s := s) hs0 hs1 (k := k) (by omega) hs0 hs1
      have hy := yI_bounds (s := s) hs0 hs1 (k + 1) (by omega)
      have hc := ct_top (k + 1) (by omega)
      have E : Hid (yI s (k + 1) = cI k - yI s k * s / 1073741824) := rfl
      rw [unhide E] at hy
      rw [show ctI (k + 1) = cI k from rfl] at hy hc
      generalize yI s k = y at *
      generalize cI k = c at *
      go_wp2
      go_roundw
      case rel => exact ⟨k + 1, by omega, by rw [unhide E], by go_num, trivial⟩
      case measure => simp [intOf]; omega
    · obtain rfl : k = 4 := by omega
      have hm := y_mul (s := s) hs0 hs1 (k := 4) (by omega) h0 h1
      generalize yI s 4 = y at *
      go_wp2
      all_goals go_ret
      all_goals refine ⟨?_, rfl⟩
      all_goals rw [unhide HF]
      all_goals simp
      all_goals omega

theorem phase_any (x : Int) (w : World) (h : I32 x) :
    Calls Tryz.prog 212 #[.int .i32 x] w fun e w' => e = .returned (.int .u32 (phaseI x)) ∧ w' = w := by
  unfold I32 at h
  go_enter Tryz.func212, Tryz.ntmps212
  go_wp2
  go_ret
  exact ⟨rfl, rfl⟩

set_option maxHeartbeats 1000000 in
theorem sine_any (p : Int) (w : World) (h0 : 0 ≤ p) (h1 : p < 4294967296) :
    Calls Tryz.prog 211 #[.int .u32 p] w fun e w' => e = .returned (.int .i32 (sineI p)) ∧ w' = w := by
  have hS : Hid (sineI p = if 2 ≤ p / 1073741824 then -fsI (foldI p) else fsI (foldI p)) := rfl
  have hf := fsI_bounds (foldI_bounds p).1 (foldI_bounds p).2
  go_enter Tryz.func211, Tryz.ntmps211
  by_cases c : p / 1073741824 % 2 = 1
  · have d : (p / 1073741824 % 2 == 1) = true := by simp; omega
    have E := hide (show 1073741824 - p % 1073741824 = foldI p by unfold foldI; rw [if_pos c])
    go_wp2_with fail
    refine (first_any _ _ (by omega) (by omega)).mono ?_
    rintro e w1 ⟨rfl, rfl⟩
    rw [unhide E]
    generalize fsI (foldI p) = z at *
    by_cases c2 : 2 ≤ p / 1073741824
    · have d2 : decide (2 ≤ p / 1073741824) = true := by simp; omega
      have S2 := hide ((unhide hS).trans (if_pos c2))
      go_wp2
      go_ret
      exact ⟨by rw [unhide S2]; rfl, rfl⟩
    · have d2 : decide (2 ≤ p / 1073741824) = false := by simp; omega
      have S2 := hide ((unhide hS).trans (if_neg c2))
      go_wp2
      go_ret
      exact ⟨by rw [unhide S2]; rfl, rfl⟩
  · have d : (p / 1073741824 % 2 == 1) = false := by simp; omega
    have E := hide (show p % 1073741824 = foldI p by unfold foldI; rw [if_neg c])
    go_wp2_with fail
    refine (first_any _ _ (by omega) (by omega)).mono ?_
    rintro e w1 ⟨rfl, rfl⟩
    rw [unhide E]
    generalize fsI (foldI p) = z at *
    by_cases c2 : 2 ≤ p / 1073741824
    · have d2 : decide (2 ≤ p / 1073741824) = true := by simp; omega
      have S2 := hide ((unhide hS).trans (if_pos c2))
      go_wp2
      go_ret
      exact ⟨by rw [unhide S2]; rfl, rfl⟩
    · have d2 : decide (2 ≤ p / 1073741824) = false := by simp; omega
      have S2 := hide ((unhide hS).trans (if_neg c2))
      go_wp2
      go_ret
      exact ⟨by rw [unhide S2]; rfl, rfl⟩

theorem sin_any (x : Int) (w : World) (h : I32 x) :
    Calls Tryz.prog 187 #[.int .i32 x] w fun e w' => e = .returned (.int .i32 (sinI x)) ∧ w' = w := by
  have hp := phaseI_bounds x
  go_enter Tryz.func187, Tryz.ntmps187
  go_wp2_with fail
  refine (phase_any _ _ h).mono ?_
  rintro e w1 ⟨rfl, rfl⟩
  go_wp2_with fail
  refine (sine_any _ _ hp.1 hp.2).mono ?_
  rintro e w1 ⟨rfl, rfl⟩
  go_wp2
  go_ret
  exact ⟨rfl, rfl⟩

theorem cos_any (x : Int) (w : World) (h : I32 x) :
    Calls Tryz.prog 188 #[.int .i32 x] w fun e w' => e = .returned (.int .i32 (cosI x)) ∧ w' = w := by
  have hp := phaseI_bounds x
  go_enter Tryz.func188, Tryz.ntmps188
  go_wp2_with fail
  refine (phase_any _ _ h).mono ?_
  rintro e w1 ⟨rfl, rfl⟩
  go_wp2_with fail
  refine (sine_any _ _ (by omega) (by omega)).mono ?_
  rintro e w1 ⟨rfl, rfl⟩
  go_wp2
  go_ret
  exact ⟨rfl, rfl⟩

end Go.Proofs.YtglfhmlcmffoaaaGreat

/-
  Vectors: the operations of two and of one, by component, and All.
-/
namespace Go.Proofs.YtglfhmlcmffoaaaGreat
open Go.RowKit
set_option linter.unusedVariables false

theorem two1_any (i : Nat) (hi : i < 4) (g : FuncId) (F : Int → Int → Int) (a b : Nat → Int) (bd ba bb : Nat) (w : World)
    (eg : ∀ args w, (callFunc g args).run Tryz.prog w = .ok (.enter g args) w)
    (hF : ∀ x y W, I32 x → I32 y → Calls Tryz.prog g #[.int .i32 x, .int .i32 y] W fun e w' => e = .returned (.int .i32 (F x y)) ∧ w' = W)
    (hd : w.cell? ⟨bd, 0, none⟩ = some (.func (.func g) #[] #[])) (ha : Blk w ba #[.int .i32 (a 0), .int .i32 (a 1), .int .i32 (a 2), .int .i32 (a 3)] 28) (hb : Blk w bb #[.int .i32 (b 0), .int .i32 (b 1), .int .i32 (b 2), .int .i32 (b 3)] 28) (Ia : ∀ i, I32 (a i)) (Ib : ∀ i, I32 (b i)) :
    Calls Tryz.prog 178 #[.int .i64 i, .pointer (some ⟨bd, 0, none⟩), .pointer (some ⟨ba, 0, none⟩), .pointer (some ⟨bb, 0, none⟩)] w fun e w' => e = .returned (.int .i32 (F (a i) (b i))) ∧ Ext w w' := by
  have ca := ha.vec i hi
  have cb := hb.vec i hi
  have hi4 : (i : Int) < 4 := by omega
  have HF := hide hF
  have HI := hide (And.intro (Ia i) (Ib i))
  clear hF Ia Ib ha hb
  go_enter Tryz.func178, Tryz.ntmps178
  go_wp2
  go_quiet (first | (go_at_fn g; refine Calls.quiet_of_same (unhide HF _ _ _ (unhide HI).1 (unhide HI).2)))
  go_wp2
  go_ret
  exact ⟨rfl, (Ext.refl w).drewN _⟩

theorem step_any (a b : Int) (w : World) :
    Calls Tryz.prog 201 #[.int .i32 a, .int .i32 b] w fun e w' => e = .returned (.int .i32 (if a ≤ b then 65536 else 0)) ∧ w' = w := by
  go_enter Tryz.func201, Tryz.ntmps201
  go_wp2
  all_goals go_ret
  all_goals refine ⟨?_, rfl⟩
  all_goals simp
  all_goals omega

/-- What the operation number op of two does with two numbers. -/
def twoI (op : Int) (a b : Int) : Int :=
  if op = 0 then addI a b else if op = 1 then subI a b else if op = 2 then mulI a b else if op = 3 then divI a b else if op = 4 then min a b else if op = 5 then max a b else if op = 6 then modI a b else if a ≤ b then 65536 else 0

theorem twoI_i32 (op : Int) {a b : Int} (ha : I32 a) (hb : I32 b) : I32 (twoI op a b) := by
  unfold twoI
  split; exact addI_i32 _ _
  split; exact subI_i32 _ _
  split; exact mulI_i32 _ _
  split; exact divI_i32 _ _
  split; unfold I32 at *; omega
  split; unfold I32 at *; omega
  split; exact subI_i32 _ _
  unfold I32
  split <;> omega

/-- The number of the function that does the operation number op of two. -/
def twoF (op : Int) : FuncId :=
  if op = 0 then 141 else if op = 1 then 143 else if op = 2 then 142 else if op = 3 then 197 else if op = 4 then 198 else if op = 5 then 199 else if op = 6 then 200 else 201

theorem op_cases {op : Int} (h0 : 0 ≤ op) (h7 : op ≤ 7) : op = 0 ∨ op = 1 ∨ op = 2 ∨ op = 3 ∨ op = 4 ∨ op = 5 ∨ op = 6 ∨ op = 7 := by omega

theorem ofTwo_any (op : Int) (w : World) (h0 : 0 ≤ op) (h7 : op ≤ 7) :
    Calls Tryz.prog 177 #[.int .i64 op] w fun e w' => e = .returned (.func (.func (twoF op)) #[] #[]) ∧ w' = w := by
  rcases op_cases h0 h7 with rfl | rfl | rfl | rfl | rfl | rfl | rfl | rfl
  all_goals go_enter Tryz.func177, Tryz.ntmps177
  all_goals go_wp2
  all_goals go_ret
  all_goals exact ⟨rfl, rfl⟩

theorem ofTwo_bad (op : Int) (w : World) (h : op < 0 ∨ 7 < op) :
    Calls Tryz.prog 177 #[.int .i64 op] w fun e w' => e = .returned .nilFunc ∧ w' = w := by
  have d0 : (op == 0) = false := by simp; omega
  have d1 : (op == 1) = false := by simp; omega
  have d2 : (op == 2) = false := by simp; omega
  have d3 : (op == 3) = false := by simp; omega
  have d4 : (op == 4) = false := by simp; omega
  have d5 : (op == 5) = false := by simp; omega
  have d6 : (op == 6) = false := by simp; omega
  have d7 : (op == 7) = false := by simp; omega
  go_enter Tryz.func177, Tryz.ntmps177
  go_wp2
  go_ret
  exact ⟨rfl, rfl⟩

theorem twoF_enters (op : Int) (h0 : 0 ≤ op) (h7 : op ≤ 7) : ∀ args w, (callFunc (twoF op) args).run Tryz.prog w = .ok (.enter (twoF op) args) w := by
  rcases op_cases h0 h7 with rfl | rfl | rfl | rfl | rfl | rfl | rfl | rfl
  · exact enters_of Tryz.func141 (by kernel_rfl) rfl
  · exact enters_of Tryz.func143 (by kernel_rfl) rfl
  · exact enters_of Tryz.func142 (by kernel_rfl) rfl
  · exact enters_of Tryz.func197 (by kernel_rfl) rfl
  · exact enters_of Tryz.func198 (by kernel_rfl) rfl
  · exact enters_of Tryz.func199 (by kernel_rfl) rfl
  · exact enters_of Tryz.func200 (by kernel_rfl) rfl
  · exact enters_of Tryz.func201 (by kernel_rfl) rfl

theorem twoF_does (op : Int) (h0 : 0 ≤ op) (h7 : op ≤ 7) (x y : Int) (w : World) (hx : I32 x) (hy : I32 y) :
    Calls Tryz.prog (twoF op) #[.int .i32 x, .int .i32 y] w fun e w' => e = .returned (.int .i32 (twoI op x y)) ∧ w' = w := by
  rcases op_cases h0 h7 with rfl | rfl | rfl | rfl | rfl | rfl | rfl | rfl
  · exact add_any x y w hx hy
  · exact sub_any x y w hx hy
  · exact mul_any x y w hx hy
  · exact div_any x y w hx hy
  · exact min_any x y w
  · exact max_any x y w
  · exact mod_any x y w hx hy
  · exact step_any x y w

end Go.Proofs.YtglfhmlcmffoaaaGreat

/-
  Vectors: Two.
-/
namespace Go.Proofs.YtglfhmlcmffoaaaGreat
open Go.RowKit
set_option linter.unusedVariables false

theorem two1_enters : ∀ args w, (callFunc 178 args).run Tryz.prog w = .ok (.enter 178 args) w := enters_of Tryz.func178 (by kernel_rfl) rfl

theorem eql_two (w : World) (g : FuncId) : (binOp .eql 96 (.func (.func g) #[] #[]) .nilFunc).run Tryz.prog w = .ok (.bool false) w := by kernel_rfl
theorem eql_two_nil (w : World) : (binOp .eql 96 .nilFunc .nilFunc).run Tryz.prog w = .ok (.bool true) w := by kernel_rfl

set_option maxHeartbeats 1000000 in
theorem two_any (op n : Int) (a b : Nat → Int) (w : World) (h0 : 0 ≤ op) (h7 : op ≤ 7) (h1 : 1 ≤ n) (h4 : n ≤ 4) (Ia : ∀ i, I32 (a i)) (Ib : ∀ i, I32 (b i)) :
    Calls Tryz.prog 146 #[.int .i64 op, .int .i64 n, .agg #[.int .i32 (a 0), .int .i32 (a 1), .int .i32 (a 2), .int .i32 (a 3)], .agg #[.int .i32 (b 0), .int .i32 (b 1), .int .i32 (b 2), .int .i32 (b 3)]] w fun e w' => e = .returned (.tuple #[.agg #[.int .i32 (cut n (fun i => twoI op (a i) (b i)) 0), .int .i32 (cut n (fun i => twoI op (a i) (b i)) 1), .int .i32 (cut n (fun i => twoI op (a i) (b i)) 2), .int .i32 (cut n (fun i => twoI op (a i) (b i)) 3)], .int .i64 0]) ∧ Ext w w' := by
  have HI := hide (And.intro Ia Ib)
  clear Ia Ib
  have hq := eql_two
  go_enter Tryz.func146, Tryz.ntmps146
  go_wp2_with fail
  refine (ofTwo_any _ _ h0 h7).mono ?_
  rintro e w1 ⟨rfl, rfl⟩
  go_wp2_with fail
  refine (each_any n 178 _ (fun i => twoI op (a i) (b i)) _ h1 h4 two1_enters (by
    intro i W hi _ hx
    exact two1_any i hi (twoF op) (twoI op) a b _ _ _ W (twoF_enters op h0 h7) (fun x y W hx hy => twoF_does op h0 h7 x y W hx hy) (((Blk.at (by simp)).ext hx).cell rfl) ((((Blk.at rfl).alloc _).alloc _).alloc _ |>.ext hx) ((((Blk.at (by simp)).alloc _).alloc _).ext hx) (unhide HI).1 (unhide HI).2)).mono ?_
  rintro e w1 ⟨rfl, hx⟩
  have R := hide (And.intro (((Blk.at (b := w.heap.size + 1 + 1) (by simp)).alloc _).ext hx) ((((((Ext.refl w).alloc _).alloc _).alloc _).alloc _).trans hx))
  clear hx
  obtain ⟨r0, r1, r2, r3⟩ := Blk.vec4 (a := nul) (unhide R).1
  obtain ⟨f0, f1, f2, f3⟩ := (unhide R).1.free4
  go_wp2
  obtain ⟨q0, q1, q2, q3⟩ := lay4 (a := nul) (unhide R).1 (.int .i32 (cut n (fun i => twoI op (a i) (b i)) 0)) (.int .i32 (cut n (fun i => twoI op (a i) (b i)) 1)) (.int .i32 (cut n (fun i => twoI op (a i) (b i)) 2)) (.int .i32 (cut n (fun i => twoI op (a i) (b i)) 3))
  refine bodyPost_ret (v := .tuple #[.agg #[.int .i32 (cut n (fun i => twoI op (a i) (b i)) 0), .int .i32 (cut n (fun i => twoI op (a i) (b i)) 1), .int .i32 (cut n (fun i => twoI op (a i) (b i)) 2), .int .i32 (cut n (fun i => twoI op (a i) (b i)) 3)], .int .i64 0]) (by simp [results, Tryz.results146, go_sem, q0, q1, q2, q3]) rfl ⟨rfl, ?_⟩
  exact ext_set4 (unhide R).2 (by omega)

theorem two_bad (op n : Int) (a b : Nat → Int) (w : World) (h : op < 0 ∨ 7 < op) :
    Calls Tryz.prog 146 #[.int .i64 op, .int .i64 n, .agg #[.int .i32 (a 0), .int .i32 (a 1), .int .i32 (a 2), .int .i32 (a 3)], .agg #[.int .i32 (b 0), .int .i32 (b 1), .int .i32 (b 2), .int .i32 (b 3)]] w fun e w' => e = .returned (.tuple #[.agg #[.int .i32 0, .int .i32 0, .int .i32 0, .int .i32 0], .int .i64 2]) ∧ Ext w w' := by
  have hq := eql_two_nil
  go_enter Tryz.func146, Tryz.ntmps146
  go_wp2_with fail
  refine (ofTwo_bad _ _ h).mono ?_
  rintro e w1 ⟨rfl, rfl⟩
  go_wp2
  refine bodyPost_ret (v := .tuple #[.agg #[.int .i32 0, .int .i32 0, .int .i32 0, .int .i32 0], .int .i64 2]) (by simp [results, Tryz.results146, go_sem]) rfl ⟨rfl, ?_⟩
  exact ((((Ext.refl w).alloc _).alloc _).alloc _).alloc _

theorem two_off (op n : Int) (a b : Nat → Int) (w : World) (h0 : 0 ≤ op) (h7 : op ≤ 7) (h : n < 1 ∨ 4 < n) :
    Calls Tryz.prog 146 #[.int .i64 op, .int .i64 n, .agg #[.int .i32 (a 0), .int .i32 (a 1), .int .i32 (a 2), .int .i32 (a 3)], .agg #[.int .i32 (b 0), .int .i32 (b 1), .int .i32 (b 2), .int .i32 (b 3)]] w fun e w' => e = .returned (.tuple #[.agg #[.int .i32 0, .int .i32 0, .int .i32 0, .int .i32 0], .int .i64 2]) ∧ Ext w w' := by
  have hq := eql_two
  go_enter Tryz.func146, Tryz.ntmps146
  go_wp2_with fail
  refine (ofTwo_any _ _ h0 h7).mono ?_
  rintro e w1 ⟨rfl, rfl⟩
  go_wp2_with fail
  refine (each_bad _ _ _ h).mono ?_
  rintro e w1 ⟨rfl, hx⟩
  have R := hide (And.intro (((Blk.at (b := w.heap.size + 1 + 1) (by simp)).alloc _).ext hx) ((((((Ext.refl w).alloc _).alloc _).alloc _).alloc _).trans hx))
  clear hx
  obtain ⟨r0, r1, r2, r3⟩ := Blk.vec4 (a := nul) (unhide R).1
  obtain ⟨f0, f1, f2, f3⟩ := (unhide R).1.free4
  go_wp2
  obtain ⟨q0, q1, q2, q3⟩ := lay4 (a := nul) (unhide R).1 (.int .i32 0) (.int .i32 0) (.int .i32 0) (.int .i32 0)
  refine bodyPost_ret (v := .tuple #[.agg #[.int .i32 0, .int .i32 0, .int .i32 0, .int .i32 0], .int .i64 2]) (by simp [results, Tryz.results146, go_sem, q0, q1, q2, q3]) rfl ⟨rfl, ?_⟩
  exact ext_set4 (unhide R).2 (by omega)
end Go.Proofs.YtglfhmlcmffoaaaGreat

/-
  Vectors: One, All, Mix, Clamp. What the dump lacks is left out.
-/
namespace Go.Proofs.YtglfhmlcmffoaaaGreat
open Go.RowKit
set_option linter.unusedVariables false

theorem one1_any (i : Nat) (hi : i < 4) (g : FuncId) (F : Int → Int) (a : Nat → Int) (bd ba : Nat) (w : World)
    (eg : ∀ args w, (callFunc g args).run Tryz.prog w = .ok (.enter g args) w)
    (hF : ∀ x W, I32 x → Calls Tryz.prog g #[.int .i32 x] W fun e w' => e = .returned (.int .i32 (F x)) ∧ w' = W)
    (hd : w.cell? ⟨bd, 0, none⟩ = some (.func (.func g) #[] #[])) (ha : Blk w ba #[.int .i32 (a 0), .int .i32 (a 1), .int .i32 (a 2), .int .i32 (a 3)] 28) (Ia : ∀ i, I32 (a i)) :
    Calls Tryz.prog 182 #[.int .i64 i, .pointer (some ⟨bd, 0, none⟩), .pointer (some ⟨ba, 0, none⟩)] w fun e w' => e = .returned (.int .i32 (F (a i))) ∧ Ext w w' := by
  have ca := ha.vec i hi
  have hi4 : (i : Int) < 4 := by omega
  have HF := hide hF
  have HI := hide (Ia i)
  clear hF Ia ha
  go_enter Tryz.func182, Tryz.ntmps182
  go_wp2
  go_quiet (first | (go_at_fn g; refine Calls.quiet_of_same (unhide HF _ _ (unhide HI))))
  go_wp2
  go_ret
  exact ⟨rfl, (Ext.refl w).drewN _⟩

theorem all1_any (i : Nat) (x : Int) (ba : Nat) (w : World) (ha : w.cell? ⟨ba, 0, none⟩ = some (.int .i32 x)) :
    Calls Tryz.prog 180 #[.int .i64 i, .pointer (some ⟨ba, 0, none⟩)] w fun e w' => e = .returned (.int .i32 x) ∧ Ext w w' := by
  go_enter Tryz.func180, Tryz.ntmps180
  go_wp2
  go_ret
  exact ⟨rfl, Ext.refl w⟩

theorem mix1_any (i : Nat) (hi : i < 4) (a b t : Nat → Int) (ba bb bt : Nat) (w : World) (ha : Blk w ba #[.int .i32 (a 0), .int .i32 (a 1), .int .i32 (a 2), .int .i32 (a 3)] 28) (hb : Blk w bb #[.int .i32 (b 0), .int .i32 (b 1), .int .i32 (b 2), .int .i32 (b 3)] 28) (ht : Blk w bt #[.int .i32 (t 0), .int .i32 (t 1), .int .i32 (t 2), .int .i32 (t 3)] 28) (Ia : ∀ i, I32 (a i)) (Ib : ∀ i, I32 (b i)) (It : ∀ i, I32 (t i)) :
    Calls Tryz.prog 140 #[.int .i64 i, .pointer (some ⟨ba, 0, none⟩), .pointer (some ⟨bb, 0, none⟩), .pointer (some ⟨bt, 0, none⟩)] w fun e w' => e = .returned (.int .i32 (addI (a i) (mulI (subI (b i) (a i)) (t i)))) ∧ Ext w w' := by
  have ca := ha.vec i hi
  have cb := hb.vec i hi
  have ct := ht.vec i hi
  have hi4 : (i : Int) < 4 := by omega
  have HI := hide (And.intro (Ia i) (And.intro (Ib i) (It i)))
  clear Ia Ib It ha hb ht
  go_enter Tryz.func140, Tryz.ntmps140
  go_wp2
  go_quiet (first | (go_at_call 143; refine Calls.quiet_of_same (sub_any _ _ _ (unhide HI).2.1 (unhide HI).1)) | (go_at_call 142; refine Calls.quiet_of_same (mul_any _ _ _ (subI_i32 _ _) (unhide HI).2.2)) | (go_at_call 141; refine Calls.quiet_of_same (add_any _ _ _ (unhide HI).1 (mulI_i32 _ _))))
  go_wp2
  go_ret
  exact ⟨rfl, (Ext.refl w).drewN _⟩

theorem clamp1_any (i : Nat) (hi : i < 4) (a b t : Nat → Int) (ba bb bt : Nat) (w : World) (ha : Blk w ba #[.int .i32 (a 0), .int .i32 (a 1), .int .i32 (a 2), .int .i32 (a 3)] 28) (hb : Blk w bb #[.int .i32 (b 0), .int .i32 (b 1), .int .i32 (b 2), .int .i32 (b 3)] 28) (ht : Blk w bt #[.int .i32 (t 0), .int .i32 (t 1), .int .i32 (t 2), .int .i32 (t 3)] 28) :
    Calls Tryz.prog 144 #[.int .i64 i, .pointer (some ⟨ba, 0, none⟩), .pointer (some ⟨bb, 0, none⟩), .pointer (some ⟨bt, 0, none⟩)] w fun e w' => e = .returned (.int .i32 (clampI (a i) (b i) (t i))) ∧ Ext w w' := by
  have ca := ha.vec i hi
  have cb := hb.vec i hi
  have ct := ht.vec i hi
  have hi4 : (i : Int) < 4 := by omega
  clear ha hb ht
  go_enter Tryz.func144, Tryz.ntmps144
  go_wp2
  go_quiet (first | (go_at_call 145; refine Calls.quiet_of_same (clamp_any _ _ _ _)))
  go_wp2
  go_ret
  exact ⟨rfl, (Ext.refl w).drewN _⟩

/-- What the operation number op of one does with a number. -/
def oneI (op : Int) (a : Int) : Int :=
  if op = 0 then negI a else if op = 1 then absI a else if op = 2 then signI a else if op = 3 then floorI a else fractI a

-- for 154
def oneF (op : Int) : FuncId :=
  if op = 0 then 202 else if op = 1 then 203 else if op = 2 then 204 else if op = 3 then 205 else 206

theorem op1_cases {op : Int} (h0 : 0 ≤ op) (h4 : op ≤ 4) : op = 0 ∨ op = 1 ∨ op = 2 ∨ op = 3 ∨ op = 4 := by omega

theorem ofOne_any (op : Int) (w : World) (h0 : 0 ≤ op) (h4 : op ≤ 4) :
    Calls Tryz.prog 181 #[.int .i64 op] w fun e w' => e = .returned (.func (.func (oneF op)) #[] #[]) ∧ w' = w := by
  rcases op1_cases h0 h4 with rfl | rfl | rfl | rfl | rfl
  all_goals go_enter Tryz.func181, Tryz.ntmps181
  all_goals go_wp2
  all_goals go_ret
  all_goals exact ⟨rfl, rfl⟩

theorem ofOne_bad (op : Int) (w : World) (h : op < 0 ∨ 4 < op) :
    Calls Tryz.prog 181 #[.int .i64 op] w fun e w' => e = .returned .nilFunc ∧ w' = w := by
  have d0 : (op == 0) = false := by simp; omega
  have d1 : (op == 1) = false := by simp; omega
  have d2 : (op == 2) = false := by simp; omega
  have d3 : (op == 3) = false := by simp; omega
  have d4 : (op == 4) = false := by simp; omega
  go_enter Tryz.func181, Tryz.ntmps181
  go_wp2
  go_ret
  exact ⟨rfl, rfl⟩

-- for 154
theorem oneF_enters (op : Int) (h0 : 0 ≤ op) (h4 : op ≤ 4) : ∀ args w, (callFunc (oneF op) args).run Tryz.prog w = .ok (.enter (oneF op) args) w := by
  rcases op1_cases h0 h4 with rfl | rfl | rfl | rfl | rfl
  · exact enters_of Tryz.func202 (by kernel_rfl) rfl
  · exact enters_of Tryz.func203 (by kernel_rfl) rfl
  · exact enters_of Tryz.func204 (by kernel_rfl) rfl
  · exact enters_of Tryz.func205 (by kernel_rfl) rfl
  · exact enters_of Tryz.func206 (by kernel_rfl) rfl

-- for 154
theorem oneF_does (op : Int) (h0 : 0 ≤ op) (h4 : op ≤ 4) (x : Int) (w : World) (hx : I32 x) :
    Calls Tryz.prog (oneF op) #[.int .i32 x] w fun e w' => e = .returned (.int .i32 (oneI op x)) ∧ w' = w := by
  rcases op1_cases h0 h4 with rfl | rfl | rfl | rfl | rfl
  · exact neg_any x w hx
  · exact abs_any x w hx
  · exact sign_any x w
  · exact floor_any x w hx
  · exact fract_any x w hx

theorem eql_one (w : World) (g : FuncId) : (binOp .eql 95 (.func (.func g) #[] #[]) .nilFunc).run Tryz.prog w = .ok (.bool false) w := by kernel_rfl

theorem eql_one_nil (w : World) : (binOp .eql 95 .nilFunc .nilFunc).run Tryz.prog w = .ok (.bool true) w := by kernel_rfl

theorem one1_enters : ∀ args w, (callFunc 182 args).run Tryz.prog w = .ok (.enter 182 args) w := enters_of Tryz.func182 (by kernel_rfl) rfl

theorem all1_enters : ∀ args w, (callFunc 180 args).run Tryz.prog w = .ok (.enter 180 args) w := enters_of Tryz.func180 (by kernel_rfl) rfl

theorem mix1_enters : ∀ args w, (callFunc 140 args).run Tryz.prog w = .ok (.enter 140 args) w := enters_of Tryz.func140 (by kernel_rfl) rfl

theorem clamp1_enters : ∀ args w, (callFunc 144 args).run Tryz.prog w = .ok (.enter 144 args) w := enters_of Tryz.func144 (by kernel_rfl) rfl

set_option maxHeartbeats 1000000 in
theorem one_any (op n : Int) (a : Nat → Int) (w : World) (h0 : 0 ≤ op) (h5 : op ≤ 4) (h1 : 1 ≤ n) (h4 : n ≤ 4) (Ia : ∀ i, I32 (a i)) :
    Calls Tryz.prog 154 #[.int .i64 op, .int .i64 n, .agg #[.int .i32 (a 0), .int .i32 (a 1), .int .i32 (a 2), .int .i32 (a 3)]] w fun e w' => e = .returned (.tuple #[.agg #[.int .i32 (cut n (fun i => oneI op (a i)) 0), .int .i32 (cut n (fun i => oneI op (a i)) 1), .int .i32 (cut n (fun i => oneI op (a i)) 2), .int .i32 (cut n (fun i => oneI op (a i)) 3)], .int .i64 0]) ∧ Ext w w' := by
  have HI := hide Ia
  clear Ia
  have hq := eql_one
  go_enter Tryz.func154, Tryz.ntmps154
  go_wp2_with fail
  refine (ofOne_any _ _ h0 h5).mono ?_
  rintro e w1 ⟨rfl, rfl⟩
  go_wp2_with fail
  refine (each_any n 182 _ (fun i => oneI op (a i)) _ h1 h4 one1_enters (by
    intro i W hi _ hx
    exact one1_any i hi (oneF op) (oneI op) a _ _ W (oneF_enters op h0 h5) (fun x W hx => oneF_does op h0 h5 x W hx) (((Blk.at (by simp)).ext hx).cell rfl) ((((Blk.at rfl).alloc _).alloc _).ext hx) (unhide HI))).mono ?_
  rintro e w1 ⟨rfl, hx⟩
  have R := hide (And.intro (((Blk.at (b := w.heap.size + 1) (by simp)).alloc _).ext hx) ((((((Ext.refl w).alloc _).alloc _).alloc _)).trans hx))
  clear hx
  obtain ⟨r0, r1, r2, r3⟩ := Blk.vec4 (a := nul) (unhide R).1
  obtain ⟨f0, f1, f2, f3⟩ := (unhide R).1.free4
  go_wp2
  obtain ⟨q0, q1, q2, q3⟩ := lay4 (a := nul) (unhide R).1 (.int .i32 (cut n (fun i => oneI op (a i)) 0)) (.int .i32 (cut n (fun i => oneI op (a i)) 1)) (.int .i32 (cut n (fun i => oneI op (a i)) 2)) (.int .i32 (cut n (fun i => oneI op (a i)) 3))
  refine bodyPost_ret (v := .tuple #[.agg #[.int .i32 (cut n (fun i => oneI op (a i)) 0), .int .i32 (cut n (fun i => oneI op (a i)) 1), .int .i32 (cut n (fun i => oneI op (a i)) 2), .int .i32 (cut n (fun i => oneI op (a i)) 3)], .int .i64 0]) (by simp [results, Tryz.results154, go_sem, q0, q1, q2, q3]) rfl ⟨rfl, ?_⟩
  exact ext_set4 (unhide R).2 (by omega)

theorem one_bad (op n : Int) (a : Nat → Int) (w : World) (h : op < 0 ∨ 4 < op) :
    Calls Tryz.prog 154 #[.int .i64 op, .int .i64 n, .agg #[.int .i32 (a 0), .int .i32 (a 1), .int .i32 (a 2), .int .i32 (a 3)]] w fun e w' => e = .returned (.tuple #[.agg #[.int .i32 0, .int .i32 0, .int .i32 0, .int .i32 0], .int .i64 2]) ∧ Ext w w' := by
  have hq := eql_one_nil
  go_enter Tryz.func154, Tryz.ntmps154
  go_wp2_with fail
  refine (ofOne_bad _ _ h).mono ?_
  rintro e w1 ⟨rfl, rfl⟩
  go_wp2
  refine bodyPost_ret (v := .tuple #[.agg #[.int .i32 0, .int .i32 0, .int .i32 0, .int .i32 0], .int .i64 2]) (by simp [results, Tryz.results154, go_sem]) rfl ⟨rfl, ?_⟩
  exact (((((Ext.refl w).alloc _).alloc _).alloc _))

theorem one_off (op n : Int) (a : Nat → Int) (w : World) (h0 : 0 ≤ op) (h5 : op ≤ 4) (h : n < 1 ∨ 4 < n) :
    Calls Tryz.prog 154 #[.int .i64 op, .int .i64 n, .agg #[.int .i32 (a 0), .int .i32 (a 1), .int .i32 (a 2), .int .i32 (a 3)]] w fun e w' => e = .returned (.tuple #[.agg #[.int .i32 0, .int .i32 0, .int .i32 0, .int .i32 0], .int .i64 2]) ∧ Ext w w' := by
  have hq := eql_one
  go_enter Tryz.func154, Tryz.ntmps154
  go_wp2_with fail
  refine (ofOne_any _ _ h0 h5).mono ?_
  rintro e w1 ⟨rfl, rfl⟩
  go_wp2_with fail
  refine (each_bad _ _ _ h).mono ?_
  rintro e w1 ⟨rfl, hx⟩
  have R := hide (And.intro (((Blk.at (b := w.heap.size + 1) (by simp)).alloc _).ext hx) ((((((Ext.refl w).alloc _).alloc _).alloc _)).trans hx))
  clear hx
  obtain ⟨r0, r1, r2, r3⟩ := Blk.vec4 (a := nul) (unhide R).1
  obtain ⟨f0, f1, f2, f3⟩ := (unhide R).1.free4
  go_wp2
  obtain ⟨q0, q1, q2, q3⟩ := lay4 (a := nul) (unhide R).1 (.int .i32 0) (.int .i32 0) (.int .i32 0) (.int .i32 0)
  refine bodyPost_ret (v := .tuple #[.agg #[.int .i32 0, .int .i32 0, .int .i32 0, .int .i32 0], .int .i64 2]) (by simp [results, Tryz.results154, go_sem, q0, q1, q2, q3]) rfl ⟨rfl, ?_⟩
  exact ext_set4 (unhide R).2 (by omega)

set_option maxHeartbeats 1000000 in
theorem all_any (n x : Int) (w : World) (h1 : 1 ≤ n) (h4 : n ≤ 4) :
    Calls Tryz.prog 151 #[.int .i64 n, .int .i32 x] w fun e w' => e = .returned (.tuple #[.agg #[.int .i32 (cut n (fun _ => x) 0), .int .i32 (cut n (fun _ => x) 1), .int .i32 (cut n (fun _ => x) 2), .int .i32 (cut n (fun _ => x) 3)], .int .i64 0]) ∧ Ext w w' := by
  go_enter Tryz.func151, Tryz.ntmps151
  go_wp2_with fail
  refine (each_any n 180 _ (fun _ => x) _ h1 h4 all1_enters (by
    intro i W hi _ hx
    exact all1_any i x _ W ((((Blk.at rfl).alloc _).ext hx).cell rfl))).mono ?_
  rintro e w1 ⟨rfl, hx⟩
  have R := hide (And.intro ((Blk.at (b := w.heap.size + 1) (by simp)).ext hx) (((((Ext.refl w).alloc _).alloc _)).trans hx))
  clear hx
  obtain ⟨r0, r1, r2, r3⟩ := Blk.vec4 (a := nul) (unhide R).1
  obtain ⟨f0, f1, f2, f3⟩ := (unhide R).1.free4
  go_wp2
  obtain ⟨q0, q1, q2, q3⟩ := lay4 (a := nul) (unhide R).1 (.int .i32 (cut n (fun _ => x) 0)) (.int .i32 (cut n (fun _ => x) 1)) (.int .i32 (cut n (fun _ => x) 2)) (.int .i32 (cut n (fun _ => x) 3))
  refine bodyPost_ret (v := .tuple #[.agg #[.int .i32 (cut n (fun _ => x) 0), .int .i32 (cut n (fun _ => x) 1), .int .i32 (cut n (fun _ => x) 2), .int .i32 (cut n (fun _ => x) 3)], .int .i64 0]) (by simp [results, Tryz.results151, go_sem, q0, q1, q2, q3]) rfl ⟨rfl, ?_⟩
  exact ext_set4 (unhide R).2 (by omega)

theorem all_off (n x : Int) (w : World) (h : n < 1 ∨ 4 < n) :
    Calls Tryz.prog 151 #[.int .i64 n, .int .i32 x] w fun e w' => e = .returned (.tuple #[.agg #[.int .i32 0, .int .i32 0, .int .i32 0, .int .i32 0], .int .i64 2]) ∧ Ext w w' := by
  go_enter Tryz.func151, Tryz.ntmps151
  go_wp2_with fail
  refine (each_bad _ _ _ h).mono ?_
  rintro e w1 ⟨rfl, hx⟩
  have R := hide (And.intro ((Blk.at (b := w.heap.size + 1) (by simp)).ext hx) (((((Ext.refl w).alloc _).alloc _)).trans hx))
  clear hx
  obtain ⟨r0, r1, r2, r3⟩ := Blk.vec4 (a := nul) (unhide R).1
  obtain ⟨f0, f1, f2, f3⟩ := (unhide R).1.free4
  go_wp2
  obtain ⟨q0, q1, q2, q3⟩ := lay4 (a := nul) (unhide R).1 (.int .i32 0) (.int .i32 0) (.int .i32 0) (.int .i32 0)
  refine bodyPost_ret (v := .tuple #[.agg #[.int .i32 0, .int .i32 0, .int .i32 0, .int .i32 0], .int .i64 2]) (by simp [results, Tryz.results151, go_sem, q0, q1, q2, q3]) rfl ⟨rfl, ?_⟩
  exact ext_set4 (unhide R).2 (by omega)

set_option maxHeartbeats 1000000 in
theorem mixV_any (n : Int) (a b t : Nat → Int) (w : World) (h1 : 1 ≤ n) (h4 : n ≤ 4) (Ia : ∀ i, I32 (a i)) (Ib : ∀ i, I32 (b i)) (It : ∀ i, I32 (t i)) :
    Calls Tryz.prog 106 #[.int .i64 n, .agg #[.int .i32 (a 0), .int .i32 (a 1), .int .i32 (a 2), .int .i32 (a 3)], .agg #[.int .i32 (b 0), .int .i32 (b 1), .int .i32 (b 2), .int .i32 (b 3)], .agg #[.int .i32 (t 0), .int .i32 (t 1), .int .i32 (t 2), .int .i32 (t 3)]] w fun e w' => e = .returned (.tuple #[.agg #[.int .i32 (cut n (fun i => addI (a i) (mulI (subI (b i) (a i)) (t i))) 0), .int .i32 (cut n (fun i => addI (a i) (mulI (subI (b i) (a i)) (t i))) 1), .int .i32 (cut n (fun i => addI (a i) (mulI (subI (b i) (a i)) (t i))) 2), .int .i32 (cut n (fun i => addI (a i) (mulI (subI (b i) (a i)) (t i))) 3)], .int .i64 0]) ∧ Ext w w' := by
  have HI := hide (And.intro Ia (And.intro Ib It))
  clear Ia Ib It
  go_enter Tryz.func106, Tryz.ntmps106
  go_wp2_with fail
  refine (each_any n 140 _ (fun i => addI (a i) (mulI (subI (b i) (a i)) (t i))) _ h1 h4 mix1_enters (by
    intro i W hi _ hx
    exact mix1_any i hi a b t _ _ _ W (((((Blk.at rfl).alloc _).alloc _).alloc _).ext hx) ((((Blk.at (by simp)).alloc _).alloc _).ext hx) (((Blk.at (by simp)).alloc _).ext hx) (unhide HI).1 (unhide HI).2.1 (unhide HI).2.2)).mono ?_
  rintro e w1 ⟨rfl, hx⟩
  have R := hide (And.intro ((Blk.at (b := w.heap.size + 1 + 1 + 1) (by simp)).ext hx) (((((((Ext.refl w).alloc _).alloc _).alloc _).alloc _)).trans hx))
  clear hx
  obtain ⟨r0, r1, r2, r3⟩ := Blk.vec4 (a := nul) (unhide R).1
  obtain ⟨f0, f1, f2, f3⟩ := (unhide R).1.free4
  go_wp2
  obtain ⟨q0, q1, q2, q3⟩ := lay4 (a := nul) (unhide R).1 (.int .i32 (cut n (fun i => addI (a i) (mulI (subI (b i) (a i)) (t i))) 0)) (.int .i32 (cut n (fun i => addI (a i) (mulI (subI (b i) (a i)) (t i))) 1)) (.int .i32 (cut n (fun i => addI (a i) (mulI (subI (b i) (a i)) (t i))) 2)) (.int .i32 (cut n (fun i => addI (a i) (mulI (subI (b i) (a i)) (t i))) 3))
  refine bodyPost_ret (v := .tuple #[.agg #[.int .i32 (cut n (fun i => addI (a i) (mulI (subI (b i) (a i)) (t i))) 0), .int .i32 (cut n (fun i => addI (a i) (mulI (subI (b i) (a i)) (t i))) 1), .int .i32 (cut n (fun i => addI (a i) (mulI (subI (b i) (a i)) (t i))) 2), .int .i32 (cut n (fun i => addI (a i) (mulI (subI (b i) (a i)) (t i))) 3)], .int .i64 0]) (by simp [results, Tryz.results106, go_sem, q0, q1, q2, q3]) rfl ⟨rfl, ?_⟩
  exact ext_set4 (unhide R).2 (by omega)

theorem mixV_off (n : Int) (a b t : Nat → Int) (w : World) (h : n < 1 ∨ 4 < n) :
    Calls Tryz.prog 106 #[.int .i64 n, .agg #[.int .i32 (a 0), .int .i32 (a 1), .int .i32 (a 2), .int .i32 (a 3)], .agg #[.int .i32 (b 0), .int .i32 (b 1), .int .i32 (b 2), .int .i32 (b 3)], .agg #[.int .i32 (t 0), .int .i32 (t 1), .int .i32 (t 2), .int .i32 (t 3)]] w fun e w' => e = .returned (.tuple #[.agg #[.int .i32 0, .int .i32 0, .int .i32 0, .int .i32 0], .int .i64 2]) ∧ Ext w w' := by
  go_enter Tryz.func106, Tryz.ntmps106
  go_wp2_with fail
  refine (each_bad _ _ _ h).mono ?_
  rintro e w1 ⟨rfl, hx⟩
  have R := hide (And.intro ((Blk.at (b := w.heap.size + 1 + 1 + 1) (by simp)).ext hx) (((((((Ext.refl w).alloc _).alloc _).alloc _).alloc _)).trans hx))
  clear hx
  obtain ⟨r0, r1, r2, r3⟩ := Blk.vec4 (a := nul) (unhide R).1
  obtain ⟨f0, f1, f2, f3⟩ := (unhide R).1.free4
  go_wp2
  obtain ⟨q0, q1, q2, q3⟩ := lay4 (a := nul) (unhide R).1 (.int .i32 0) (.int .i32 0) (.int .i32 0) (.int .i32 0)
  refine bodyPost_ret (v := .tuple #[.agg #[.int .i32 0, .int .i32 0, .int .i32 0, .int .i32 0], .int .i64 2]) (by simp [results, Tryz.results106, go_sem, q0, q1, q2, q3]) rfl ⟨rfl, ?_⟩
  exact ext_set4 (unhide R).2 (by omega)

set_option maxHeartbeats 1000000 in
theorem clampV_any (n : Int) (a b t : Nat → Int) (w : World) (h1 : 1 ≤ n) (h4 : n ≤ 4) :
    Calls Tryz.prog 107 #[.int .i64 n, .agg #[.int .i32 (a 0), .int .i32 (a 1), .int .i32 (a 2), .int .i32 (a 3)], .agg #[.int .i32 (b 0), .int .i32 (b 1), .int .i32 (b 2), .int .i32 (b 3)], .agg #[.int .i32 (t 0), .int .i32 (t 1), .int .i32 (t 2), .int .i32 (t 3)]] w fun e w' => e = .returned (.tuple #[.agg #[.int .i32 (cut n (fun i => clampI (a i) (b i) (t i)) 0), .int .i32 (cut n (fun i => clampI (a i) (b i) (t i)) 1), .int .i32 (cut n (fun i => clampI (a i) (b i) (t i)) 2), .int .i32 (cut n (fun i => clampI (a i) (b i) (t i)) 3)], .int .i64 0]) ∧ Ext w w' := by
  go_enter Tryz.func107, Tryz.ntmps107
  go_wp2_with fail
  refine (each_any n 144 _ (fun i => clampI (a i) (b i) (t i)) _ h1 h4 clamp1_enters (by
    intro i W hi _ hx
    exact clamp1_any i hi a b t _ _ _ W (((((Blk.at rfl).alloc _).alloc _).alloc _).ext hx) ((((Blk.at (by simp)).alloc _).alloc _).ext hx) (((Blk.at (by simp)).alloc _).ext hx))).mono ?_
  rintro e w1 ⟨rfl, hx⟩
  have R := hide (And.intro ((Blk.at (b := w.heap.size + 1 + 1 + 1) (by simp)).ext hx) (((((((Ext.refl w).alloc _).alloc _).alloc _).alloc _)).trans hx))
  clear hx
  obtain ⟨r0, r1, r2, r3⟩ := Blk.vec4 (a := nul) (unhide R).1
  obtain ⟨f0, f1, f2, f3⟩ := (unhide R).1.free4
  go_wp2
  obtain ⟨q0, q1, q2, q3⟩ := lay4 (a := nul) (unhide R).1 (.int .i32 (cut n (fun i => clampI (a i) (b i) (t i)) 0)) (.int .i32 (cut n (fun i => clampI (a i) (b i) (t i)) 1)) (.int .i32 (cut n (fun i => clampI (a i) (b i) (t i)) 2)) (.int .i32 (cut n (fun i => clampI (a i) (b i) (t i)) 3))
  refine bodyPost_ret (v := .tuple #[.agg #[.int .i32 (cut n (fun i => clampI (a i) (b i) (t i)) 0), .int .i32 (cut n (fun i => clampI (a i) (b i) (t i)) 1), .int .i32 (cut n (fun i => clampI (a i) (b i) (t i)) 2), .int .i32 (cut n (fun i => clampI (a i) (b i) (t i)) 3)], .int .i64 0]) (by simp [results, Tryz.results107, go_sem, q0, q1, q2, q3]) rfl ⟨rfl, ?_⟩
  exact ext_set4 (unhide R).2 (by omega)

theorem clampV_off (n : Int) (a b t : Nat → Int) (w : World) (h : n < 1 ∨ 4 < n) :
    Calls Tryz.prog 107 #[.int .i64 n, .agg #[.int .i32 (a 0), .int .i32 (a 1), .int .i32 (a 2), .int .i32 (a 3)], .agg #[.int .i32 (b 0), .int .i32 (b 1), .int .i32 (b 2), .int .i32 (b 3)], .agg #[.int .i32 (t 0), .int .i32 (t 1), .int .i32 (t 2), .int .i32 (t 3)]] w fun e w' => e = .returned (.tuple #[.agg #[.int .i32 0, .int .i32 0, .int .i32 0, .int .i32 0], .int .i64 2]) ∧ Ext w w' := by
  go_enter Tryz.func107, Tryz.ntmps107
  go_wp2_with fail
  refine (each_bad _ _ _ h).mono ?_
  rintro e w1 ⟨rfl, hx⟩
  have R := hide (And.intro ((Blk.at (b := w.heap.size + 1 + 1 + 1) (by simp)).ext hx) (((((((Ext.refl w).alloc _).alloc _).alloc _).alloc _)).trans hx))
  clear hx
  obtain ⟨r0, r1, r2, r3⟩ := Blk.vec4 (a := nul) (unhide R).1
  obtain ⟨f0, f1, f2, f3⟩ := (unhide R).1.free4
  go_wp2
  obtain ⟨q0, q1, q2, q3⟩ := lay4 (a := nul) (unhide R).1 (.int .i32 0) (.int .i32 0) (.int .i32 0) (.int .i32 0)
  refine bodyPost_ret (v := .tuple #[.agg #[.int .i32 0, .int .i32 0, .int .i32 0, .int .i32 0], .int .i64 2]) (by simp [results, Tryz.results107, go_sem, q0, q1, q2, q3]) rfl ⟨rfl, ?_⟩
  exact ext_set4 (unhide R).2 (by omega)

end Go.Proofs.YtglfhmlcmffoaaaGreat
