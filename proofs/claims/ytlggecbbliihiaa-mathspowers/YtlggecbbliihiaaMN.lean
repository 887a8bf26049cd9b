/-
  The walks of maths' lengths. What the dump lacks is left out.
-/
import Derived.Test.YtlggecbbliihiaaMR
import Derived.Test.YtlggecbbliihiaaVE
namespace Go.Proofs.Ytlggecbbliihiaa
open Go.RowKit
set_option linter.unusedVariables false
set_option linter.unusedSimpArgs false

/-- How many numbers are meant by n. -/
def cntI (n : Int) : Int := min (max n 0) 4
theorem cntI_bounds (n : Int) : 0 ≤ cntI n ∧ cntI n ≤ 4 := by unfold cntI; omega

theorem counted_any (n : Int) (w : World) :
    Calls Try.prog 48 #[.int .i64 n] w fun e w' => e = .returned (.int .i64 (cntI n)) ∧ w' = w := by
  go_enter Try.func48, Try.ntmps48
  go_wp2
  all_goals go_ret
  all_goals refine ⟨?_, rfl⟩
  all_goals simp [cntI]
  all_goals omega

theorem sq_i32 {x : Int} (h : I32 x) : 0 ≤ x * x ∧ x * x ≤ 4611686018427387904 := by
  have h1 := mul_i32 h h
  have h2 : 0 ≤ x * x := by
    rcases Int.le_total 0 x with h | h
    · exact Int.mul_nonneg h h
    · exact Int.mul_nonneg_of_nonpos_of_nonpos h h
  omega

theorem len1_any (x s : Int) (b : Nat) (w : World) (hx : I32 x) (hs0 : 0 ≤ s) (hs1 : s ≤ 4611686018427387904) (hc : w.cell? ⟨b, 0, none⟩ = some (.int .u64 s)) (hf : w.frozen? ⟨b, 0, none⟩ = false) :
    Calls Try.prog 47 #[.int .i32 x, .pointer (some ⟨b, 0, none⟩)] w fun e w' => e = .returned (.tuple #[]) ∧ w' = w.setCell ⟨b, 0, none⟩ (.int .u64 (min (s + x * x) 4611686018427387904)) := by
  have hq := sq_i32 hx
  unfold I32 at hx
  go_enter Try.func47, Try.ntmps47
  go_wp2
  · go_end0
    exact ⟨rfl, by rw [show min (s + x * x) 4611686018427387904 = 4611686018427387904 by omega]⟩
  · go_end0
    exact ⟨rfl, by rw [show min (s + x * x) 4611686018427387904 = s + x * x by omega]⟩

/-- The sum of the squares of the first k numbers, held at 2^62. -/
def lsI (a : Nat → Int) : Nat → Int
  | 0 => 0
  | k + 1 => min (lsI a k + a k * a k) 4611686018427387904
theorem lsI_bounds {a : Nat → Int} (h : ∀ i, I32 (a i)) : ∀ k, 0 ≤ lsI a k ∧ lsI a k ≤ 4611686018427387904
  | 0 => by simp [lsI]
  | k + 1 => by
    have ih := lsI_bounds h k
    have hq := sq_i32 (h k)
    unfold lsI
    omega
/-- The raw of how long the vector of a's first n numbers is. -/
def lengthI (a : Nat → Int) (n : Int) : Int := rawI (rootI (lsI a (cntI n).toNat))
theorem lengthI_i32 (a : Nat → Int) (n : Int) : I32 (lengthI a n) := rawI_i32 _

set_option maxHeartbeats 1000000 in
theorem length_any (a : Nat → Int) (n : Int) (w : World) (Ia : ∀ i, I32 (a i)) :
    Calls Try.prog 26 #[.agg #[.int .i32 (a 0), .int .i32 (a 1), .int .i32 (a 2), .int .i32 (a 3)], .int .i64 n] w fun e w' => e = .returned (.int .i32 (lengthI a n)) ∧ Ext w w' := by
  have HI := hide Ia
  clear Ia
  have hcb := cntI_bounds n
  have HL : Hid (lengthI a n = rawI (rootI (lsI a (cntI n).toNat))) := rfl
  have B0 : Hid (Blk ((w.alloc (.cells #[.int .i32 (a 0), .int .i32 (a 1), .int .i32 (a 2), .int .i32 (a 3)] 34)).alloc (.cells #[.int .u64 0] 22)) w.heap.size #[.int .i32 (a 0), .int .i32 (a 1), .int .i32 (a 2), .int .i32 (a 3)] 34) := (Blk.new w _ _).alloc _
  have B1 : Hid (Blk ((w.alloc (.cells #[.int .i32 (a 0), .int .i32 (a 1), .int .i32 (a 2), .int .i32 (a 3)] 34)).alloc (.cells #[.int .u64 0] 22)) (w.heap.size + 1) #[.int .u64 0] 22) := Blk.at (by simp)
  go_enter Try.func26, Try.ntmps26
  go_wp2_with fail
  refine (counted_any _ _).mono ?_
  rintro e w1 ⟨rfl, rfl⟩
  obtain ⟨c, hc⟩ : ∃ c : Nat, cntI n = (c : Int) := ⟨(cntI n).toNat, by omega⟩
  rw [hc] at HL hcb ⊢
  clear hc
  have hc4 : c ≤ 4 := by omega
  go_wp2
  go_loopw [14] (fun i wr => ∃ k : Nat, k ≤ c ∧ i = .int .i64 k ∧ Blk wr w.heap.size #[.int .i32 (a 0), .int .i32 (a 1), .int .i32 (a 2), .int .i32 (a 3)] 34 ∧ Blk wr (w.heap.size + 1) #[.int .u64 (lsI a k)] 22 ∧ Ext w wr) (fun i _ => c - (intOf i).toNat)
  case atStart => exact ⟨0, by omega, rfl, unhide B0, unhide B1, ((Ext.refl w).alloc _).alloc _⟩
  case round =>
    obtain ⟨k, hk, rfl, hb0, hb1, hx⟩ := hrel
    clear B0 B1
    have D := hide (And.intro hb0 (And.intro hb1 hx))
    clear hb0 hb1 hx
    by_cases hlt : k < c
    · have hkc : (k : Int) < (c : Int) := by omega
      have hk4 : k < 4 := by omega
      have c0 := (unhide D).1.vec k hk4
      have hl := lsI_bounds (unhide HI) k
      go_wp2_with fail
      refine (len1_any _ (lsI a k) _ _ (unhide HI k) hl.1 hl.2 ((unhide D).2.1.cell rfl) ((unhide D).2.1.free 0)).mono ?_
      rintro e w1 ⟨rfl, rfl⟩
      go_wp2
      go_roundw
      case rel =>
        refine ⟨k + 1, by omega, by go_num, (unhide D).1.other 0 _ (by omega), ?_, ext_set (unhide D).2.2 (by omega)⟩
        exact (unhide D).2.1.set 0 _
      case measure => simp [intOf]; omega
    · obtain rfl : k = c := by omega
      have c0 := (unhide D).2.1.cell (i := 0) rfl
      have hl := lsI_bounds (unhide HI) k
      rw [show ((k : Int)).toNat = k by omega] at HL
      go_wp2_with fail
      refine (ofRoot_any _ _ hl.1 (by omega)).mono ?_
      rintro e w1 ⟨rfl, rfl⟩
      go_wp2
      go_ret
      exact ⟨by rw [unhide HL]; rfl, (unhide D).2.2⟩

/-- The numbers of a vector over its length. -/
def unitI (a : Nat → Int) (n : Int) : Nat → Int := cut (cntI n) (fun i => divI (a i) (lengthI a n))
theorem unitI_i32 (a : Nat → Int) (n : Int) (i : Nat) : I32 (unitI a n i) := cut_i32 (fun i => divI_i32 _ _) i
theorem cntI_cnt (n : Int) : cntI (cntI n) = cntI n := by unfold cntI; omega
theorem lengthI_cnt (a : Nat → Int) (n : Int) : lengthI a (cntI n) = lengthI a n := by unfold lengthI; rw [cntI_cnt]

set_option maxHeartbeats 1000000 in
theorem normalize_any (a : Nat → Int) (n : Int) (w : World) (Ia : ∀ i, I32 (a i)) :
    Calls Try.prog 28 #[.agg #[.int .i32 (a 0), .int .i32 (a 1), .int .i32 (a 2), .int .i32 (a 3)], .int .i64 n] w fun e w' => e = .returned (.agg #[.int .i32 (unitI a n 0), .int .i32 (unitI a n 1), .int .i32 (unitI a n 2), .int .i32 (unitI a n 3)]) ∧ Ext w w' := by
  have HI := hide Ia
  clear Ia
  have hcb := cntI_bounds n
  have HU : Hid (unitI a n = cut (cntI n) (fun i => divI (a i) (lengthI a n))) := rfl
  have HL := hide (lengthI_cnt a n)
  have B0 : Hid (Blk ((w.alloc (.cells #[.int .i32 (a 0), .int .i32 (a 1), .int .i32 (a 2), .int .i32 (a 3)] 34)).alloc (.cells #[.int .i32 0, .int .i32 0, .int .i32 0, .int .i32 0] 34)) w.heap.size #[.int .i32 (a 0), .int .i32 (a 1), .int .i32 (a 2), .int .i32 (a 3)] 34) := (Blk.new w _ _).alloc _
  have B1 : Hid (Blk ((w.alloc (.cells #[.int .i32 (a 0), .int .i32 (a 1), .int .i32 (a 2), .int .i32 (a 3)] 34)).alloc (.cells #[.int .i32 0, .int .i32 0, .int .i32 0, .int .i32 0] 34)) (w.heap.size + 1) #[.int .i32 (nul 0), .int .i32 (nul 1), .int .i32 (nul 2), .int .i32 (nul 3)] 34) := Blk.at (by simp)
  have X : Hid (Ext w ((w.alloc (.cells #[.int .i32 (a 0), .int .i32 (a 1), .int .i32 (a 2), .int .i32 (a 3)] 34)).alloc (.cells #[.int .i32 0, .int .i32 0, .int .i32 0, .int .i32 0] 34))) := ((Ext.refl w).alloc _).alloc _
  go_enter Try.func28, Try.ntmps28
  go_wp2_with fail
  refine (counted_any _ _).mono ?_
  rintro e w1 ⟨rfl, rfl⟩
  generalize hce : cntI n = c at *
  have HC := hide hce
  clear hce
  obtain ⟨r0, r1, r2, r3⟩ := Blk.vec4 (a := nul) (unhide B1)
  obtain ⟨f0, f1, f2, f3⟩ := (unhide B1).free4
  by_cases h0 : c = 0
  · subst h0
    have HZ : Hid (unitI a n = nul) := by
      show _ = _
      rw [unhide HU]
      funext i
      simp [cut, nul]
      omega
    go_wp2
    refine bodyPost_ret (v := .agg #[.int .i32 0, .int .i32 0, .int .i32 0, .int .i32 0]) (by simp [results, Try.results28, go_sem, r0, r1, r2, r3, nul]) rfl ⟨by rw [unhide HZ]; rfl, ?_⟩
    exact unhide X
  · have d0 : (c == 0) = false := by simp; omega
    clear r0 r1 r2 r3 f0 f1 f2 f3
    obtain ⟨p0, p1, p2, p3⟩ := (unhide B0).vec4
    go_wp2_with fail
    refine (length_any a c _ (unhide HI)).mono ?_
    rintro e w2 ⟨rfl, hx⟩
    rw [unhide HL]
    have C0 := hide ((unhide B0).ext hx)
    have C1 := hide ((unhide B1).ext hx)
    have Y := hide ((unhide X).trans hx)
    clear B0 B1 X hx p0 p1 p2 p3
    generalize hle : lengthI a n = L at *
    have HLi := hide (hle ▸ lengthI_i32 a n : I32 L)
    have HLE := hide hle
    clear hle
    go_wp2_with fail
    refine (all_any c L _ (by omega) (by omega)).mono ?_
    rintro e w3 ⟨rfl, hx⟩
    have D0 := hide (((unhide C0).ext hx).alloc (.cells #[.int .i32 (cut c (fun _ => L) 0), .int .i32 (cut c (fun _ => L) 1), .int .i32 (cut c (fun _ => L) 2), .int .i32 (cut c (fun _ => L) 3)] 34))
    have D1 := hide (((unhide C1).ext hx).alloc (.cells #[.int .i32 (cut c (fun _ => L) 0), .int .i32 (cut c (fun _ => L) 1), .int .i32 (cut c (fun _ => L) 2), .int .i32 (cut c (fun _ => L) 3)] 34))
    have D2 := hide (Blk.at (w := w3) (cs := #[.int .i32 (cut c (fun _ => L) 0), .int .i32 (cut c (fun _ => L) 1), .int .i32 (cut c (fun _ => L) 2), .int .i32 (cut c (fun _ => L) 3)]) (t := 34) rfl)
    have Z := hide (((unhide Y).trans hx).alloc (.cells #[.int .i32 (cut c (fun _ => L) 0), .int .i32 (cut c (fun _ => L) 1), .int .i32 (cut c (fun _ => L) 2), .int .i32 (cut c (fun _ => L) 3)] 34))
    clear C0 C1 Y hx
    obtain ⟨p0, p1, p2, p3⟩ := (unhide D0).vec4
    obtain ⟨q0, q1, q2, q3⟩ := (unhide D2).vec4
    have HK : Hid (∀ i, I32 (cut c (fun _ => L) i)) := cut_i32 (fun _ => unhide HLi)
    have HV : Hid (cut c (fun i => twoI 3 (a i) (cut c (fun _ => L) i)) = unitI a n) := by
      show _ = _
      rw [unhide HU]
      exact cut_congr fun i hi => by simp [cut, hi, twoI]
    go_wp2_with fail
    refine (two_any 3 c a (cut c (fun _ => L)) _ (by omega) (by omega) (by omega) (by omega) (unhide HI) (unhide HK)).mono ?_
    rintro e w4 ⟨rfl, hx⟩
    rw [unhide HV]
    clear p0 p1 p2 p3 q0 q1 q2 q3
    generalize hue : unitI a n = u at *
    have HUE := hide hue
    clear hue
    have E1 := hide (((unhide D1).ext hx).alloc (.cells #[.int .i32 (u 0), .int .i32 (u 1), .int .i32 (u 2), .int .i32 (u 3)] 34))
    have E2 := hide (Blk.at (w := w4) (cs := #[.int .i32 (u 0), .int .i32 (u 1), .int .i32 (u 2), .int .i32 (u 3)]) (t := 34) rfl)
    have Z2 := hide (((unhide Z).trans hx).alloc (.cells #[.int .i32 (u 0), .int .i32 (u 1), .int .i32 (u 2), .int .i32 (u 3)] 34))
    clear D0 D1 D2 Z hx
    obtain ⟨p0, p1, p2, p3⟩ := (unhide E2).vec4
    obtain ⟨r0, r1, r2, r3⟩ := Blk.vec4 (a := nul) (unhide E1)
    obtain ⟨f0, f1, f2, f3⟩ := (unhide E1).free4
    go_wp2
    obtain ⟨q0, q1, q2, q3⟩ := lay4 (a := nul) (unhide E1) (.int .i32 (u 0)) (.int .i32 (u 1)) (.int .i32 (u 2)) (.int .i32 (u 3))
    refine bodyPost_ret (v := .agg #[.int .i32 (u 0), .int .i32 (u 1), .int .i32 (u 2), .int .i32 (u 3)]) (by simp [results, Try.results28, go_sem, q0, q1, q2, q3]) rfl ⟨by rw [unhide HUE], ?_⟩
    exact ext_set4 (b := w.heap.size + 1) (unhide Z2) (by omega)

end Go.Proofs.Ytlggecbbliihiaa
