/-
  The walks of the document's powers and logarithms. What the dump lacks is left out.
-/
import Derived.Test.YtglfhmlcmffoaaaGreatMPJ
namespace Go.Proofs.YtglfhmlcmffoaaaGreat
open Go.RowKit
set_option linter.unusedVariables false
set_option linter.unusedSimpArgs false

theorem refDown16_any (n : Int) (w : World) (h : -4611686018460942336 ≤ n ∧ n ≤ 4611686018460942336) :
    Calls Tryz.prog 125 #[.int .i64 n, .int .i64 16] w fun e w' => e = .returned (.int .i64 (n / 65536)) ∧ w' = w := by
  go_enter Tryz.func125, Tryz.ntmps125
  have h2 : 65536 * n.tdiv 65536 + n.tmod 65536 = n := Int.mul_tdiv_add_tmod n 65536
  have h3 : n.tmod 65536 < 65536 := Int.tmod_lt_of_pos n (by omega)
  have h4 : -65536 < n.tmod 65536 := Int.lt_tmod_of_pos n (by omega)
  have h5 : 0 ≤ n → 0 ≤ n.tmod 65536 := fun hn => Int.tmod_nonneg 65536 hn
  have h6 : n ≤ 0 → n.tmod 65536 ≤ 0 := fun hn => by
    have := Int.tmod_nonneg 65536 (a := -n) (by omega)
    rw [Int.neg_tmod] at this
    omega
  have hq : -70368744178178 ≤ n.tdiv 65536 ∧ n.tdiv 65536 ≤ 70368744178178 := by omega
  have H2 := hide (And.intro h2 (And.intro h5 h6))
  clear h2 h5 h6
  go_wp2
  all_goals go_ret
  all_goals refine ⟨?_, rfl⟩
  all_goals obtain ⟨h2, h5, h6⟩ := unhide H2
  all_goals simp
  all_goals omega

theorem refDown30_any (n : Int) (w : World) (h : -4611686018460942336 ≤ n ∧ n ≤ 4611686018460942336) :
    Calls Tryz.prog 125 #[.int .i64 n, .int .i64 30] w fun e w' => e = .returned (.int .i64 (n / 1073741824)) ∧ w' = w := by
  go_enter Tryz.func125, Tryz.ntmps125
  have h2 : 1073741824 * n.tdiv 1073741824 + n.tmod 1073741824 = n := Int.mul_tdiv_add_tmod n 1073741824
  have h3 : n.tmod 1073741824 < 1073741824 := Int.tmod_lt_of_pos n (by omega)
  have h4 : -1073741824 < n.tmod 1073741824 := Int.lt_tmod_of_pos n (by omega)
  have h5 : 0 ≤ n → 0 ≤ n.tmod 1073741824 := fun hn => Int.tmod_nonneg 1073741824 hn
  have h6 : n ≤ 0 → n.tmod 1073741824 ≤ 0 := fun hn => by
    have := Int.tmod_nonneg 1073741824 (a := -n) (by omega)
    rw [Int.neg_tmod] at this
    omega
  have hq : -4294967298 ≤ n.tdiv 1073741824 ∧ n.tdiv 1073741824 ≤ 4294967298 := by omega
  have H2 := hide (And.intro h2 (And.intro h5 h6))
  clear h2 h5 h6
  go_wp2
  all_goals go_ret
  all_goals refine ⟨?_, rfl⟩
  all_goals obtain ⟨h2, h5, h6⟩ := unhide H2
  all_goals simp
  all_goals omega

theorem refDown14_any (n : Int) (w : World) (h : -4611686018460942336 ≤ n ∧ n ≤ 4611686018460942336) :
    Calls Tryz.prog 125 #[.int .i64 n, .int .i64 14] w fun e w' => e = .returned (.int .i64 (n / 16384)) ∧ w' = w := by
  go_enter Tryz.func125, Tryz.ntmps125
  have h2 : 16384 * n.tdiv 16384 + n.tmod 16384 = n := Int.mul_tdiv_add_tmod n 16384
  have h3 : n.tmod 16384 < 16384 := Int.tmod_lt_of_pos n (by omega)
  have h4 : -16384 < n.tmod 16384 := Int.lt_tmod_of_pos n (by omega)
  have h5 : 0 ≤ n → 0 ≤ n.tmod 16384 := fun hn => Int.tmod_nonneg 16384 hn
  have h6 : n ≤ 0 → n.tmod 16384 ≤ 0 := fun hn => by
    have := Int.tmod_nonneg 16384 (a := -n) (by omega)
    rw [Int.neg_tmod] at this
    omega
  have hq : -281474976712706 ≤ n.tdiv 16384 ∧ n.tdiv 16384 ≤ 281474976712706 := by omega
  have H2 := hide (And.intro h2 (And.intro h5 h6))
  clear h2 h5 h6
  go_wp2
  all_goals go_ret
  all_goals refine ⟨?_, rfl⟩
  all_goals obtain ⟨h2, h5, h6⟩ := unhide H2
  all_goals simp
  all_goals omega

theorem refTable_any (w : World) : Calls Tryz.prog 126 #[] w fun e w' => e = .returned (.agg #[.int .i64 1518500250, .int .i64 1276901417, .int .i64 1170923762, .int .i64 1121280436, .int .i64 1097253708, .int .i64 1085434106, .int .i64 1079572136, .int .i64 1076653033, .int .i64 1075196443, .int .i64 1074468888, .int .i64 1074105294, .int .i64 1073923544, .int .i64 1073832680, .int .i64 1073787251, .int .i64 1073764537, .int .i64 1073753181]) ∧ Ext w w' := by
  go_enter Tryz.func126, Tryz.ntmps126
  go_wp2
  exact bodyPost_ret (v := .agg #[.int .i64 1518500250, .int .i64 1276901417, .int .i64 1170923762, .int .i64 1121280436, .int .i64 1097253708, .int .i64 1085434106, .int .i64 1079572136, .int .i64 1076653033, .int .i64 1075196443, .int .i64 1074468888, .int .i64 1074105294, .int .i64 1073923544, .int .i64 1073832680, .int .i64 1073787251, .int .i64 1073764537, .int .i64 1073753181]) (by simp [results, Tryz.results126, go_sem]) rfl ⟨rfl, (Ext.refl w).alloc _⟩

theorem indexT (k : Nat) (hk : k < 16) (w : World) : (Instr.index 135 (.agg #[.int .i64 1518500250, .int .i64 1276901417, .int .i64 1170923762, .int .i64 1121280436, .int .i64 1097253708, .int .i64 1085434106, .int .i64 1079572136, .int .i64 1076653033, .int .i64 1075196443, .int .i64 1074468888, .int .i64 1074105294, .int .i64 1073923544, .int .i64 1073832680, .int .i64 1073787251, .int .i64 1073764537, .int .i64 1073753181]) (.int .i64 k)).run Tryz.prog w = .ok (.int .i64 (tabI k)) w := by
  rcases (by omega : k = 0 ∨ k = 1 ∨ k = 2 ∨ k = 3 ∨ k = 4 ∨ k = 5 ∨ k = 6 ∨ k = 7 ∨ k = 8 ∨ k = 9 ∨ k = 10 ∨ k = 11 ∨ k = 12 ∨ k = 13 ∨ k = 14 ∨ k = 15) with rfl | rfl | rfl | rfl | rfl | rfl | rfl | rfl | rfl | rfl | rfl | rfl | rfl | rfl | rfl | rfl <;> kernel_rfl

theorem pow15 (k : Nat) : (0 : Int) < 2 ^ (15 - k) ∧ (2 : Int) ^ (15 - k) ≤ 32768 := ⟨pow2_pos _, pow2_le (b := 15) (by omega)⟩
theorem pow44 {n : Int} (h : -30 ≤ n) : (0 : Int) < 2 ^ (14 - n).toNat ∧ (2 : Int) ^ (14 - n).toNat ≤ 17592186044416 := ⟨pow2_pos _, pow2_le (b := 44) (by omega)⟩

set_option maxHeartbeats 1000000 in
theorem refExp2_any (x : Int) (w : World) (h : I32 x) :
    Calls Tryz.prog 88 #[.int .i32 x] w fun e w' => e = .returned (.int .i32 (exp2I x)) ∧ Ext w w' := by
  have hE : Hid (exp2I x = if 15 ≤ x / 65536 then 2147483647 else if x / 65536 < -30 then 0 else powI (x % 65536) 16 / 2 ^ (14 - x / 65536).toNat) := rfl
  have hF : x - x / 65536 * 65536 = x % 65536 := by omega
  have HF := hide hF
  clear hF
  unfold I32 at h
  go_enter Tryz.func88, Tryz.ntmps88
  go_wp2_with fail
  refine (refDown16_any _ _ (by omega)).mono ?_
  rintro e w1 ⟨rfl, rfl⟩
  go_wp2_with fail
  refine (refTable_any _).mono ?_
  rintro e w2 ⟨rfl, hx⟩
  rw [unhide HF]
  have X := hide hx
  clear hx
  have hf0 : 0 ≤ x % 65536 := by omega
  have hf1 : x % 65536 < 65536 := by omega
  have hn1 : -32768 ≤ x / 65536 := by omega
  have hn2 : x / 65536 ≤ 32767 := by omega
  generalize x % 65536 = f at *
  generalize x / 65536 = n at *
  clear HF
  go_wp2
  go_loopw [5, 17] (fun r i wr => ∃ k : Nat, k ≤ 16 ∧ r = .int .i64 (powI f k) ∧ i = .int .i64 k ∧ wr = w2) (fun _ i _ => 16 - (intOf i).toNat)
  case atStart => exact ⟨0, by omega, rfl, rfl, rfl⟩
  case round =>
    obtain ⟨k, hk, rfl, rfl, rfl⟩ := hrel
    by_cases hlt : k < 16
    · have hk16 : (k : Int) < 16 := by omega
      have hix := indexT k hlt
      have hm := powI_mul f k hlt
      have hp := powI_bounds f k (by omega)
      have E : Hid (powI f (k + 1) = if f / 2 ^ (15 - (k : Int)).toNat % 2 = 1 then powI f k * tabI k / 1073741824 else powI f k) := rfl
      rw [show (15 - (k : Int)).toNat = 15 - k by omega] at E
      have hD := pow15 k
      have hD0 : ((2 : Int) ^ (15 - k) == 0) = false := by simp; omega
      have hQ : 0 ≤ f / 2 ^ (15 - k) := Int.ediv_nonneg hf0 (by omega)
      have hQ1 : f / 2 ^ (15 - k) ≤ 65535 := Int.le_trans (Int.ediv_le_self _ hf0) (by omega)
      generalize powI f k = r at *
      generalize tabI k = t at *
      by_cases c : f / 2 ^ (15 - k) % 2 = 1
      · have E2 := hide ((unhide E).trans (if_pos c))
        have d : (f / 2 ^ (15 - k) % 2 == 1) = true := by simp; omega
        clear E
        go_wp2
        go_roundw
        case rel => exact ⟨k + 1, by omega, by rw [unhide E2], by go_num, trivial⟩
        case measure => simp [intOf]; omega
      · have E2 := hide ((unhide E).trans (if_neg c))
        have d : (f / 2 ^ (15 - k) % 2 == 1) = false := by simp; omega
        clear E
        go_wp2
        go_roundw
        case rel => exact ⟨k + 1, by omega, by rw [unhide E2], by go_num, trivial⟩
        case measure => simp [intOf]; omega
    · obtain rfl : k = 16 := by omega
      by_cases c1 : 15 ≤ n
      · have d1 : decide (15 ≤ n) = true := by simp; omega
        have E2 := hide ((unhide hE).trans (if_pos c1))
        clear hE c1
        go_wp2
        go_ret
        exact ⟨by rw [unhide E2]; rfl, unhide X⟩
      · have d1 : decide (15 ≤ n) = false := by simp; omega
        by_cases c2 : n < -30
        · have d2 : decide (n < -30) = true := by simp; omega
          have E2 := hide (((unhide hE).trans (if_neg c1)).trans (if_pos c2))
          clear hE
          go_wp2
          go_ret
          exact ⟨by rw [unhide E2]; rfl, unhide X⟩
        · have d2 : decide (n < -30) = false := by simp; omega
          have E2 := hide (((unhide hE).trans (if_neg c1)).trans (if_neg c2))
          clear hE
          have hb := exp2_part f (14 - n).toNat
          have hp := powI_bounds f 16 (by omega)
          have hD := pow44 (n := n) (by omega)
          have hD0 : ((2 : Int) ^ (14 - n).toNat == 0) = false := by simp; omega
          generalize powI f 16 = r at *
          go_wp2
          go_ret
          exact ⟨by rw [unhide E2]; rfl, unhide X⟩

end Go.Proofs.YtglfhmlcmffoaaaGreat
