/-
  The walks of the document's lengths. What the dump lacks is left out.
-/
import Derived.Test.YtglfhmlcmffoaaaGreatVEJ
namespace Go.Proofs.YtglfhmlcmffoaaaGreat
open Go.RowKit
set_option linter.unusedVariables false
set_option linter.unusedSimpArgs false

/-- The sum of the squares of the first k numbers. -/
def sqS (a : Nat → Int) : Nat → Int
  | 0 => 0
  | k + 1 => sqS a k + a k * a k
theorem sqS_up {a : Nat → Int} (h : ∀ i, I32 (a i)) (k : Nat) : sqS a k ≤ sqS a (k + 1) := by
  have := (sq_i32 (h k)).1
  show sqS a k ≤ sqS a k + a k * a k
  omega
theorem sqS_mono {a : Nat → Int} (h : ∀ i, I32 (a i)) (k d : Nat) : sqS a k ≤ sqS a (k + d) := by
  induction d with
  | zero => exact Int.le_refl _
  | succ d ih => exact Int.le_trans ih (sqS_up h (k + d))
theorem sqS_nonneg {a : Nat → Int} (h : ∀ i, I32 (a i)) (k : Nat) : 0 ≤ sqS a k := by
  have := sqS_mono h 0 k
  rw [Nat.zero_add] at this
  exact this
theorem lsI_eq {a : Nat → Int} (h : ∀ i, I32 (a i)) : ∀ k, lsI a k = min (sqS a k) 4611686018427387904
  | 0 => by simp [lsI, sqS]; omega
  | k + 1 => by
    have ih := lsI_eq h k
    have h0 := (sq_i32 (h k)).1
    show min (lsI a k + a k * a k) 4611686018427387904 = min (sqS a k + a k * a k) 4611686018427387904
    rw [ih]
    omega
theorem root_most : rawI (rootI 4611686018427387904) = 2147483647 := by
  rw [rootI_eq (r := 2147483648) (by unfold IsRoot; decide)]
  decide
/-- A sum that is too great. -/
theorem length_most {a : Nat → Int} {n : Int} {k : Nat} (h : ∀ i, I32 (a i)) (hk : (k : Int) ≤ cntM n) (hs : 4611686018427387904 ≤ sqS a k) : lengthI a n = 2147483647 := by
  unfold lengthI
  obtain ⟨d, hd⟩ : ∃ d, (cntM n).toNat = k + d := ⟨(cntM n).toNat - k, by omega⟩
  have h1 := sqS_mono h k d
  rw [hd, lsI_eq h, show min (sqS a (k + d)) 4611686018427387904 = 4611686018427387904 by omega]
  exact root_most
theorem length_sum {a : Nat → Int} {n : Int} {k : Nat} (h : ∀ i, I32 (a i)) (hk : (k : Int) = cntM n) (hs : sqS a k < 4611686018427387904) : lengthI a n = rawI (rootI (sqS a k)) := by
  unfold lengthI
  rw [show (cntM n).toNat = k by omega, lsI_eq h, show min (sqS a k) 4611686018427387904 = sqS a k by omega]
/-- A vector of length 0 is 0. -/
theorem sq_zero {x : Int} (h : x * x ≤ 0) : x = 0 := by
  rcases (by omega : x = 0 ∨ 1 ≤ x ∨ x ≤ -1) with h1 | h1 | h1
  · exact h1
  · have := Int.mul_le_mul h1 h1 (by omega) (by omega); omega
  · have := Int.mul_le_mul (show (1 : Int) ≤ -x by omega) (show (1 : Int) ≤ -x by omega) (by omega) (by omega)
    rw [Int.neg_mul_neg] at this
    omega
theorem sqS_zero {a : Nat → Int} (h : ∀ i, I32 (a i)) : ∀ k, sqS a k ≤ 0 → ∀ i, i < k → a i = 0
  | 0, _, i, hi => by omega
  | k + 1, hs, i, hi => by
    have h0 := (sq_i32 (h k)).1
    have h1 : sqS a k + a k * a k ≤ 0 := hs
    have h2 := sqS_nonneg h k
    rcases (by omega : i < k ∨ i = k) with h3 | h3
    · exact sqS_zero h k (by omega) i h3
    · subst h3
      exact sq_zero (by omega)
theorem unit_zero {a : Nat → Int} {n : Int} (h : ∀ i, I32 (a i)) (hl : lengthI a n = 0) : unitI a n = nul := by
  have hz : sqS a (cntM n).toNat ≤ 0 := by
    unfold lengthI at hl
    have hb := lsI_bounds h (cntM n).toNat
    have hr := rootI_spec hb.1
    have h0 : rootI (lsI a (cntM n).toNat) = 0 := by
      have := hr.1
      unfold rawI clampI at hl
      omega
    rw [h0] at hr
    have := hr.2.2
    rw [lsI_eq h] at this
    omega
  funext i
  unfold unitI cut nul
  split
  · show divI (a i) (lengthI a n) = 0
    rw [sqS_zero h _ hz i (by omega), hl]
    decide
  · rfl

set_option maxHeartbeats 1000000 in
theorem refLength_a (a : Nat → Int) (n : Int) (w : World) (Ia : ∀ i, I32 (a i)) (h4 : n ≤ 4) :
    Calls Tryz.prog 54 #[.agg #[.int .i32 (a 0), .int .i32 (a 1), .int .i32 (a 2), .int .i32 (a 3)], .int .i64 n] w fun e w' => e = .returned (.int .i32 (lengthI a n)) ∧ Ext w w' := by
  have HI := hide Ia
  clear Ia
  have hcb := cntM_bounds n
  have HC : Hid (cntM n = min (max n 0) 4) := rfl
  have B0 : Hid (Blk (w.alloc (.cells #[.int .i32 (a 0), .int .i32 (a 1), .int .i32 (a 2), .int .i32 (a 3)] 28)) w.heap.size #[.int .i32 (a 0), .int .i32 (a 1), .int .i32 (a 2), .int .i32 (a 3)] 28) := Blk.new w _ _
  have X := hide ((Ext.refl w).alloc (.cells #[.int .i32 (a 0), .int .i32 (a 1), .int .i32 (a 2), .int .i32 (a 3)] 28))
  go_enter Tryz.func54, Tryz.ntmps54
  go_wp2
  generalize w.alloc (.cells #[.int .i32 (a 0), .int .i32 (a 1), .int .i32 (a 2), .int .i32 (a 3)] 28) = w1 at *
  go_loopw [5, 6] (fun s i wr => ∃ k : Nat, (k : Int) ≤ cntM n ∧ s = .int .u64 (sqS a k) ∧ i = .int .i64 k ∧ sqS a k < 4611686018427387904 ∧ wr = w1) (fun _ i _ => 4 - (intOf i).toNat)
  case atStart => exact ⟨0, by omega, rfl, rfl, by show (0 : Int) < _; omega, rfl⟩
  case round =>
    obtain ⟨k, hk, rfl, rfl, hs, rfl⟩ := hrel
    by_cases hlt : (k : Int) < cntM n
    · have d0 : decide ((k : Int) < n) = true := by have := unhide HC; simp; omega
      have hk4 : k < 4 := by omega
      have hki : (k : Int) < 4 := by omega
      have c0 := (unhide B0).vec k hk4
      have hq := sq_i32 (unhide HI k)
      have hx := unhide HI k
      unfold I32 at hx
      have hs0 := sqS_nonneg (unhide HI) k
      have E : Hid (sqS a (k + 1) = sqS a k + a k * a k) := rfl
      have HM : Hid (4611686018427387904 ≤ sqS a (k + 1) → lengthI a n = 2147483647) := fun h => length_most (unhide HI) (k := k + 1) (by omega) h
      rw [unhide E] at HM
      generalize sqS a k = s at *
      generalize a k = x at *
      by_cases c : 4611686018427387904 ≤ s + x * x
      · have d1 : decide (4611686018427387904 ≤ s + x * x) = true := by simp; omega
        have HT := hide (unhide HM c)
        go_wp2
        go_ret
        exact ⟨by rw [unhide HT]; rfl, unhide X⟩
      · have d1 : decide (4611686018427387904 ≤ s + x * x) = false := by simp; omega
        clear HM
        go_wp2
        go_roundw
        case rel => exact ⟨k + 1, by omega, by rw [unhide E], by go_num, by rw [unhide E]; omega, trivial⟩
        case measure => simp [intOf]; omega
    · have d0 : decide ((k : Int) < n) = false := by have := unhide HC; simp; omega
      have HT := hide (length_sum (unhide HI) (k := k) (n := n) (by omega) hs)
      have hs0 := sqS_nonneg (unhide HI) k
      generalize sqS a k = s at *
      have hr := rootI_u32 (n := s) hs0 (by omega)
      go_wp2_with fail
      refine (refRoot_any _ _ hs0 (by omega)).mono ?_
      rintro e w2 ⟨rfl, rfl⟩
      generalize rootI s = r at *
      go_wp2_with fail
      refine (refRaw_any _ _ (by unfold I64; omega)).mono ?_
      rintro e w2 ⟨rfl, rfl⟩
      go_wp2
      go_ret
      exact ⟨by rw [unhide HT]; rfl, unhide X⟩

set_option maxHeartbeats 1000000 in
theorem refLength_b (a : Nat → Int) (n : Int) (w : World) (Ia : ∀ i, I32 (a i)) (h4 : 4 < n) :
    Calls Tryz.prog 54 #[.agg #[.int .i32 (a 0), .int .i32 (a 1), .int .i32 (a 2), .int .i32 (a 3)], .int .i64 n] w fun e w' => e = .returned (.int .i32 (lengthI a n)) ∧ Ext w w' := by
  have HI := hide Ia
  clear Ia
  have hcb := cntM_bounds n
  have HC : Hid (cntM n = min (max n 0) 4) := rfl
  have B0 : Hid (Blk (w.alloc (.cells #[.int .i32 (a 0), .int .i32 (a 1), .int .i32 (a 2), .int .i32 (a 3)] 28)) w.heap.size #[.int .i32 (a 0), .int .i32 (a 1), .int .i32 (a 2), .int .i32 (a 3)] 28) := Blk.new w _ _
  have X := hide ((Ext.refl w).alloc (.cells #[.int .i32 (a 0), .int .i32 (a 1), .int .i32 (a 2), .int .i32 (a 3)] 28))
  go_enter Tryz.func54, Tryz.ntmps54
  go_wp2
  generalize w.alloc (.cells #[.int .i32 (a 0), .int .i32 (a 1), .int .i32 (a 2), .int .i32 (a 3)] 28) = w1 at *
  go_loopw [5, 6] (fun s i wr => ∃ k : Nat, (k : Int) ≤ cntM n ∧ s = .int .u64 (sqS a k) ∧ i = .int .i64 k ∧ sqS a k < 4611686018427387904 ∧ wr = w1) (fun _ i _ => 4 - (intOf i).toNat)
  case atStart => exact ⟨0, by omega, rfl, rfl, by show (0 : Int) < _; omega, rfl⟩
  case round =>
    obtain ⟨k, hk, rfl, rfl, hs, rfl⟩ := hrel
    by_cases hlt : (k : Int) < cntM n
    · have d0 : decide ((k : Int) < 4) = true := by have := unhide HC; simp; omega
      have hk4 : k < 4 := by omega
      have hki : (k : Int) < 4 := by omega
      have c0 := (unhide B0).vec k hk4
      have hq := sq_i32 (unhide HI k)
      have hx := unhide HI k
      unfold I32 at hx
      have hs0 := sqS_nonneg (unhide HI) k
      have E : Hid (sqS a (k + 1) = sqS a k + a k * a k) := rfl
      have HM : Hid (4611686018427387904 ≤ sqS a (k + 1) → lengthI a n = 2147483647) := fun h => length_most (unhide HI) (k := k + 1) (by omega) h
      rw [unhide E] at HM
      generalize sqS a k = s at *
      generalize a k = x at *
      by_cases c : 4611686018427387904 ≤ s + x * x
      · have d1 : decide (4611686018427387904 ≤ s + x * x) = true := by simp; omega
        have HT := hide (unhide HM c)
        go_wp2
        go_ret
        exact ⟨by rw [unhide HT]; rfl, unhide X⟩
      · have d1 : decide (4611686018427387904 ≤ s + x * x) = false := by simp; omega
        clear HM
        go_wp2
        go_roundw
        case rel => exact ⟨k + 1, by omega, by rw [unhide E], by go_num, by rw [unhide E]; omega, trivial⟩
        case measure => simp [intOf]; omega
    · have d0 : decide ((k : Int) < 4) = false := by have := unhide HC; simp; omega
      have HT := hide (length_sum (unhide HI) (k := k) (n := n) (by omega) hs)
      have hs0 := sqS_nonneg (unhide HI) k
      generalize sqS a k = s at *
      have hr := rootI_u32 (n := s) hs0 (by omega)
      go_wp2_with fail
      refine (refRoot_any _ _ hs0 (by omega)).mono ?_
      rintro e w2 ⟨rfl, rfl⟩
      generalize rootI s = r at *
      go_wp2_with fail
      refine (refRaw_any _ _ (by unfold I64; omega)).mono ?_
      rintro e w2 ⟨rfl, rfl⟩
      go_wp2
      go_ret
      exact ⟨by rw [unhide HT]; rfl, unhide X⟩

theorem refLength_any (a : Nat → Int) (n : Int) (w : World) (Ia : ∀ i, I32 (a i)) :
    Calls Tryz.prog 54 #[.agg #[.int .i32 (a 0), .int .i32 (a 1), .int .i32 (a 2), .int .i32 (a 3)], .int .i64 n] w fun e w' => e = .returned (.int .i32 (lengthI a n)) ∧ Ext w w' := by
  by_cases h : n ≤ 4
  · exact refLength_a a n w Ia h
  · exact refLength_b a n w Ia (by omega)

set_option maxHeartbeats 1000000 in
theorem refNormalize_a (a : Nat → Int) (n : Int) (w : World) (Ia : ∀ i, I32 (a i)) (h4 : n ≤ 4) :
    Calls Tryz.prog 50 #[.agg #[.int .i32 (a 0), .int .i32 (a 1), .int .i32 (a 2), .int .i32 (a 3)], .int .i64 n] w fun e w' => e = .returned (.agg #[.int .i32 (unitI a n 0), .int .i32 (unitI a n 1), .int .i32 (unitI a n 2), .int .i32 (unitI a n 3)]) ∧ Ext w w' := by
  have HI := hide Ia
  clear Ia
  have hcb := cntM_bounds n
  have HC : Hid (cntM n = min (max n 0) 4) := rfl
  have HU : Hid (unitI a n = cut (cntM n) (fun i => divI (a i) (lengthI a n))) := rfl
  have HZ := hide (fun h => unit_zero (a := a) (n := n) (unhide HI) h)
  have HLi := hide (lengthI_i32 a n)
  have B0 : Hid (Blk (((w.alloc (.cells #[.int .i32 (a 0), .int .i32 (a 1), .int .i32 (a 2), .int .i32 (a 3)] 28)).alloc (.cells #[.int .i32 0, .int .i32 0, .int .i32 0, .int .i32 0] 28)).alloc (.cells #[.int .i32 0, .int .i32 0, .int .i32 0, .int .i32 0] 28)) w.heap.size #[.int .i32 (a 0), .int .i32 (a 1), .int .i32 (a 2), .int .i32 (a 3)] 28) := ((Blk.new w _ _).alloc _).alloc _
  have B1 : Hid (Blk (((w.alloc (.cells #[.int .i32 (a 0), .int .i32 (a 1), .int .i32 (a 2), .int .i32 (a 3)] 28)).alloc (.cells #[.int .i32 0, .int .i32 0, .int .i32 0, .int .i32 0] 28)).alloc (.cells #[.int .i32 0, .int .i32 0, .int .i32 0, .int .i32 0] 28)) (w.heap.size + 1) #[.int .i32 (nul 0), .int .i32 (nul 1), .int .i32 (nul 2), .int .i32 (nul 3)] 28) := (Blk.at (by simp)).alloc _
  have B2 : Hid (Blk (((w.alloc (.cells #[.int .i32 (a 0), .int .i32 (a 1), .int .i32 (a 2), .int .i32 (a 3)] 28)).alloc (.cells #[.int .i32 0, .int .i32 0, .int .i32 0, .int .i32 0] 28)).alloc (.cells #[.int .i32 0, .int .i32 0, .int .i32 0, .int .i32 0] 28)) (w.heap.size + 1 + 1) #[.int .i32 (nul 0), .int .i32 (nul 1), .int .i32 (nul 2), .int .i32 (nul 3)] 28) := Blk.at (by simp)
  have X : Hid (Ext w (((w.alloc (.cells #[.int .i32 (a 0), .int .i32 (a 1), .int .i32 (a 2), .int .i32 (a 3)] 28)).alloc (.cells #[.int .i32 0, .int .i32 0, .int .i32 0, .int .i32 0] 28)).alloc (.cells #[.int .i32 0, .int .i32 0, .int .i32 0, .int .i32 0] 28))) := (((Ext.refl w).alloc _).alloc _).alloc _
  obtain ⟨p0, p1, p2, p3⟩ := (unhide B0).vec4
  go_enter Tryz.func50, Tryz.ntmps50
  go_wp2_with fail
  refine (refLength_any a n _ (unhide HI)).mono ?_
  rintro e w1 ⟨rfl, hx⟩
  have C := hide (And.intro ((unhide B0).ext hx) (And.intro ((unhide B1).ext hx) (And.intro ((unhide B2).ext hx) ((unhide X).trans hx))))
  clear B0 B1 B2 X hx p0 p1 p2 p3
  generalize lengthI a n = L at *
  generalize hue : unitI a n = u at *
  have HUE := hide hue
  clear hue
  go_wp2
  go_loopw [7] (fun i wr => ∃ k : Nat, (k : Int) ≤ cntM n ∧ i = .int .i64 k ∧ (L = 0 → k = 0) ∧ Blk wr w.heap.size #[.int .i32 (a 0), .int .i32 (a 1), .int .i32 (a 2), .int .i32 (a 3)] 28 ∧ Blk wr (w.heap.size + 1) #[.int .i32 (nul 0), .int .i32 (nul 1), .int .i32 (nul 2), .int .i32 (nul 3)] 28 ∧ Blk wr (w.heap.size + 1 + 1) #[.int .i32 (cut k (fun i => divI (a i) L) 0), .int .i32 (cut k (fun i => divI (a i) L) 1), .int .i32 (cut k (fun i => divI (a i) L) 2), .int .i32 (cut k (fun i => divI (a i) L) 3)] 28 ∧ Ext w wr) (fun i _ => 4 - (intOf i).toNat)
  case atStart => exact ⟨0, by omega, rfl, fun _ => rfl, (unhide C).1, (unhide C).2.1, by simp only [cut_zero]; exact (unhide C).2.2.1, (unhide C).2.2.2⟩
  case round =>
    obtain ⟨k, hk, rfl, hz, b0, b1, b2, hx⟩ := hrel
    have D := hide (And.intro b0 (And.intro b1 (And.intro b2 hx)))
    have Hz := hide hz
    clear b0 b1 b2 hx C hz
    by_cases hgo : (k : Int) < cntM n ∧ L ≠ 0
    · have d0 : decide ((k : Int) < n) = true := by have := unhide HC; simp; omega
      have d1 : (L != 0) = true := by simp; omega
      have hk4 : k < 4 := by omega
      have hki : (k : Int) < 4 := by omega
      have c0 := (unhide D).1.vec k hk4
      have c2 := (unhide D).2.2.1.vec k hk4
      have f2 := (unhide D).2.2.1.free k
      have hL0 := hgo.2
      go_wp2_with fail
      refine (refDiv_any _ _ _ (unhide HI k) (unhide HLi)).mono ?_
      rintro e w2 ⟨rfl, rfl⟩
      go_wp2
      go_roundw
      case rel =>
        refine ⟨k + 1, by omega, by go_num, fun h => absurd h hL0, (unhide D).1.other k _ (by omega), (unhide D).2.1.other k _ (by omega), ?_, ext_set (unhide D).2.2.2 (by omega)⟩
        have := (unhide D).2.2.1.set k (.int .i32 (divI (a k) L))
        rw [cut_set (fun i => divI (a i) L) k hk4] at this
        exact this
      case measure => simp [intOf]; omega
    · have HV : Hid (cut k (fun i => divI (a i) L) = u) := by
        show _ = _
        by_cases h0 : L = 0
        · rw [unhide HZ h0, unhide Hz h0]
          funext i
          exact cut_zero _ i
        · rw [unhide HU, show (k : Int) = cntM n by omega]
      rw [unhide HV] at D
      clear HV HU HZ
      obtain ⟨p0, p1, p2, p3⟩ := (unhide D).2.2.1.vec4
      obtain ⟨r0, r1, r2, r3⟩ := Blk.vec4 (a := nul) (unhide D).2.1
      obtain ⟨f0, f1, f2, f3⟩ := (unhide D).2.1.free4
      obtain ⟨q0, q1, q2, q3⟩ := lay4 (a := nul) (unhide D).2.1 (.int .i32 (u 0)) (.int .i32 (u 1)) (.int .i32 (u 2)) (.int .i32 (u 3))
      have Q := hide (And.intro q0 (And.intro q1 (And.intro q2 q3)))
      clear q0 q1 q2 q3
      by_cases hlt : (k : Int) < cntM n
      · have d0 : decide ((k : Int) < n) = true := by have := unhide HC; simp; omega
        have d1 : (L != 0) = false := by simp; omega
        go_wp2
        obtain ⟨q0, q1, q2, q3⟩ := unhide Q
        refine bodyPost_ret (v := .agg #[.int .i32 (u 0), .int .i32 (u 1), .int .i32 (u 2), .int .i32 (u 3)]) (by simp [results, Tryz.results50, go_sem, q0, q1, q2, q3]) rfl ⟨by rw [unhide HUE], ?_⟩
        exact ext_set4 (b := w.heap.size + 1) (unhide D).2.2.2 (by omega)
      · have d0 : decide ((k : Int) < n) = false := by have := unhide HC; simp; omega
        go_wp2
        obtain ⟨q0, q1, q2, q3⟩ := unhide Q
        refine bodyPost_ret (v := .agg #[.int .i32 (u 0), .int .i32 (u 1), .int .i32 (u 2), .int .i32 (u 3)]) (by simp [results, Tryz.results50, go_sem, q0, q1, q2, q3]) rfl ⟨by rw [unhide HUE], ?_⟩
        exact ext_set4 (b := w.heap.size + 1) (unhide D).2.2.2 (by omega)

set_option maxHeartbeats 1000000 in
theorem refNormalize_b (a : Nat → Int) (n : Int) (w : World) (Ia : ∀ i, I32 (a i)) (h4 : 4 < n) :
    Calls Tryz.prog 50 #[.agg #[.int .i32 (a 0), .int .i32 (a 1), .int .i32 (a 2), .int .i32 (a 3)], .int .i64 n] w fun e w' => e = .returned (.agg #[.int .i32 (unitI a n 0), .int .i32 (unitI a n 1), .int .i32 (unitI a n 2), .int .i32 (unitI a n 3)]) ∧ Ext w w' := by
  have HI := hide Ia
  clear Ia
  have hcb := cntM_bounds n
  have HC : Hid (cntM n = min (max n 0) 4) := rfl
  have HU : Hid (unitI a n = cut (cntM n) (fun i => divI (a i) (lengthI a n))) := rfl
  have HZ := hide (fun h => unit_zero (a := a) (n := n) (unhide HI) h)
  have HLi := hide (lengthI_i32 a n)
  have B0 : Hid (Blk (((w.alloc (.cells #[.int .i32 (a 0), .int .i32 (a 1), .int .i32 (a 2), .int .i32 (a 3)] 28)).alloc (.cells #[.int .i32 0, .int .i32 0, .int .i32 0, .int .i32 0] 28)).alloc (.cells #[.int .i32 0, .int .i32 0, .int .i32 0, .int .i32 0] 28)) w.heap.size #[.int .i32 (a 0), .int .i32 (a 1), .int .i32 (a 2), .int .i32 (a 3)] 28) := ((Blk.new w _ _).alloc _).alloc _
  have B1 : Hid (Blk (((w.alloc (.cells #[.int .i32 (a 0), .int .i32 (a 1), .int .i32 (a 2), .int .i32 (a 3)] 28)).alloc (.cells #[.int .i32 0, .int .i32 0, .int .i32 0, .int .i32 0] 28)).alloc (.cells #[.int .i32 0, .int .i32 0, .int .i32 0, .int .i32 0] 28)) (w.heap.size + 1) #[.int .i32 (nul 0), .int .i32 (nul 1), .int .i32 (nul 2), .int .i32 (nul 3)] 28) := (Blk.at (by simp)).alloc _
  have B2 : Hid (Blk (((w.alloc (.cells #[.int .i32 (a 0), .int .i32 (a 1), .int .i32 (a 2), .int .i32 (a 3)] 28)).alloc (.cells #[.int .i32 0, .int .i32 0, .int .i32 0, .int .i32 0] 28)).alloc (.cells #[.int .i32 0, .int .i32 0, .int .i32 0, .int .i32 0] 28)) (w.heap.size + 1 + 1) #[.int .i32 (nul 0), .int .i32 (nul 1), .int .i32 (nul 2), .int .i32 (nul 3)] 28) := Blk.at (by simp)
  have X : Hid (Ext w (((w.alloc (.cells #[.int .i32 (a 0), .int .i32 (a 1), .int .i32 (a 2), .int .i32 (a 3)] 28)).alloc (.cells #[.int .i32 0, .int .i32 0, .int .i32 0, .int .i32 0] 28)).alloc (.cells #[.int .i32 0, .int .i32 0, .int .i32 0, .int .i32 0] 28))) := (((Ext.refl w).alloc _).alloc _).alloc _
  obtain ⟨p0, p1, p2, p3⟩ := (unhide B0).vec4
  go_enter Tryz.func50, Tryz.ntmps50
  go_wp2_with fail
  refine (refLength_any a n _ (unhide HI)).mono ?_
  rintro e w1 ⟨rfl, hx⟩
  have C := hide (And.intro ((unhide B0).ext hx) (And.intro ((unhide B1).ext hx) (And.intro ((unhide B2).ext hx) ((unhide X).trans hx))))
  clear B0 B1 B2 X hx p0 p1 p2 p3
  generalize lengthI a n = L at *
  generalize hue : unitI a n = u at *
  have HUE := hide hue
  clear hue
  go_wp2
  go_loopw [7] (fun i wr => ∃ k : Nat, (k : Int) ≤ cntM n ∧ i = .int .i64 k ∧ (L = 0 → k = 0) ∧ Blk wr w.heap.size #[.int .i32 (a 0), .int .i32 (a 1), .int .i32 (a 2), .int .i32 (a 3)] 28 ∧ Blk wr (w.heap.size + 1) #[.int .i32 (nul 0), .int .i32 (nul 1), .int .i32 (nul 2), .int .i32 (nul 3)] 28 ∧ Blk wr (w.heap.size + 1 + 1) #[.int .i32 (cut k (fun i => divI (a i) L) 0), .int .i32 (cut k (fun i => divI (a i) L) 1), .int .i32 (cut k (fun i => divI (a i) L) 2), .int .i32 (cut k (fun i => divI (a i) L) 3)] 28 ∧ Ext w wr) (fun i _ => 4 - (intOf i).toNat)
  case atStart => exact ⟨0, by omega, rfl, fun _ => rfl, (unhide C).1, (unhide C).2.1, by simp only [cut_zero]; exact (unhide C).2.2.1, (unhide C).2.2.2⟩
  case round =>
    obtain ⟨k, hk, rfl, hz, b0, b1, b2, hx⟩ := hrel
    have D := hide (And.intro b0 (And.intro b1 (And.intro b2 hx)))
    have Hz := hide hz
    clear b0 b1 b2 hx C hz
    by_cases hgo : (k : Int) < cntM n ∧ L ≠ 0
    · have d0 : decide ((k : Int) < 4) = true := by have := unhide HC; simp; omega
      have d1 : (L != 0) = true := by simp; omega
      have hk4 : k < 4 := by omega
      have hki : (k : Int) < 4 := by omega
      have c0 := (unhide D).1.vec k hk4
      have c2 := (unhide D).2.2.1.vec k hk4
      have f2 := (unhide D).2.2.1.free k
      have hL0 := hgo.2
      go_wp2_with fail
      refine (refDiv_any _ _ _ (unhide HI k) (unhide HLi)).mono ?_
      rintro e w2 ⟨rfl, rfl⟩
      go_wp2
      go_roundw
      case rel =>
        refine ⟨k + 1, by omega, by go_num, fun h => absurd h hL0, (unhide D).1.other k _ (by omega), (unhide D).2.1.other k _ (by omega), ?_, ext_set (unhide D).2.2.2 (by omega)⟩
        have := (unhide D).2.2.1.set k (.int .i32 (divI (a k) L))
        rw [cut_set (fun i => divI (a i) L) k hk4] at this
        exact this
      case measure => simp [intOf]; omega
    · have HV : Hid (cut k (fun i => divI (a i) L) = u) := by
        show _ = _
        by_cases h0 : L = 0
        · rw [unhide HZ h0, unhide Hz h0]
          funext i
          exact cut_zero _ i
        · rw [unhide HU, show (k : Int) = cntM n by omega]
      rw [unhide HV] at D
      clear HV HU HZ
      obtain ⟨p0, p1, p2, p3⟩ := (unhide D).2.2.1.vec4
      obtain ⟨r0, r1, r2, r3⟩ := Blk.vec4 (a := nul) (unhide D).2.1
      obtain ⟨f0, f1, f2, f3⟩ := (unhide D).2.1.free4
      obtain ⟨q0, q1, q2, q3⟩ := lay4 (a := nul) (unhide D).2.1 (.int .i32 (u 0)) (.int .i32 (u 1)) (.int .i32 (u 2)) (.int .i32 (u 3))
      have Q := hide (And.intro q0 (And.intro q1 (And.intro q2 q3)))
      clear q0 q1 q2 q3
      by_cases hlt : (k : Int) < cntM n
      · have d0 : decide ((k : Int) < 4) = true := by have := unhide HC; simp; omega
        have d1 : (L != 0) = false := by simp; omega
        go_wp2
        obtain ⟨q0, q1, q2, q3⟩ := unhide Q
        refine bodyPost_ret (v := .agg #[.int .i32 (u 0), .int .i32 (u 1), .int .i32 (u 2), .int .i32 (u 3)]) (by simp [results, Tryz.results50, go_sem, q0, q1, q2, q3]) rfl ⟨by rw [unhide HUE], ?_⟩
        exact ext_set4 (b := w.heap.size + 1) (unhide D).2.2.2 (by omega)
      · have d0 : decide ((k : Int) < 4) = false := by have := unhide HC; simp; omega
        go_wp2
        obtain ⟨q0, q1, q2, q3⟩ := unhide Q
        refine bodyPost_ret (v := .agg #[.int .i32 (u 0), .int .i32 (u 1), .int .i32 (u 2), .int .i32 (u 3)]) (by simp [results, Tryz.results50, go_sem, q0, q1, q2, q3]) rfl ⟨by rw [unhide HUE], ?_⟩
        exact ext_set4 (b := w.heap.size + 1) (unhide D).2.2.2 (by omega)

theorem refNormalize_any (a : Nat → Int) (n : Int) (w : World) (Ia : ∀ i, I32 (a i)) :
    Calls Tryz.prog 50 #[.agg #[.int .i32 (a 0), .int .i32 (a 1), .int .i32 (a 2), .int .i32 (a 3)], .int .i64 n] w fun e w' => e = .returned (.agg #[.int .i32 (unitI a n 0), .int .i32 (unitI a n 1), .int .i32 (unitI a n 2), .int .i32 (unitI a n 3)]) ∧ Ext w w' := by
  by_cases h : n ≤ 4
  · exact refNormalize_a a n w Ia h
  · exact refNormalize_b a n w Ia (by omega)

end Go.Proofs.YtglfhmlcmffoaaaGreat
