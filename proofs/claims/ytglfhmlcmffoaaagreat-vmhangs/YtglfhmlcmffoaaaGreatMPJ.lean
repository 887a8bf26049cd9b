/- Several texts in one. -/
import Derived.Test.YtglfhmlcmffoaaaGreatVMAJ
import Derived.Test.YtglfhmlcmffoaaaGreatShelf
import Derived.Laws.EntriesVeiled
import Derived.BigQuiet
/-
  The walks of maths' powers and logarithms. What the dump lacks is left out.
-/
namespace Go.Proofs.YtglfhmlcmffoaaaGreat
open Go.RowKit
set_option linter.unusedVariables false
set_option linter.unusedSimpArgs false

theorem i32_and1 (n : Int) : bits .and .i32 n 1 = n % 2 := by
  have h1 : (BitVec.ofInt 32 1).toNat = 2 ^ 1 - 1 := by decide
  have key : (BitVec.ofInt 32 n &&& BitVec.ofInt 32 1).toNat = (n % ((2 ^ 32 : Nat) : Int)).toNat % 2 ^ 1 := by
    rw [BitVec.toNat_and, BitVec.toNat_ofInt, h1, Nat.and_two_pow_sub_one_eq_mod]
  show IntKind.i32.wrap ((BitVec.ofInt 32 n &&& BitVec.ofInt 32 1).toNat : Nat) = n % 2
  rw [key, IntKind.wrap_i32]
  omega

theorem powers_any (w : World) : Calls Tryz.prog 219 #[] w fun e w' => e = .returned (.agg #[.int .u64 1518500250, .int .u64 1276901417, .int .u64 1170923762, .int .u64 1121280436, .int .u64 1097253708, .int .u64 1085434106, .int .u64 1079572136, .int .u64 1076653033, .int .u64 1075196443, .int .u64 1074468888, .int .u64 1074105294, .int .u64 1073923544, .int .u64 1073832680, .int .u64 1073787251, .int .u64 1073764537, .int .u64 1073753181]) ∧ Ext w w' := by
  go_enter Tryz.func219, Tryz.ntmps219
  go_wp2
  exact bodyPost_ret (v := .agg #[.int .u64 1518500250, .int .u64 1276901417, .int .u64 1170923762, .int .u64 1121280436, .int .u64 1097253708, .int .u64 1085434106, .int .u64 1079572136, .int .u64 1076653033, .int .u64 1075196443, .int .u64 1074468888, .int .u64 1074105294, .int .u64 1073923544, .int .u64 1073832680, .int .u64 1073787251, .int .u64 1073764537, .int .u64 1073753181]) (by simp [results, Tryz.results219, go_sem]) rfl ⟨rfl, (Ext.refl w).alloc _⟩

theorem indexU (k : Nat) (hk : k < 16) (w : World) : (Instr.index 193 (.agg #[.int .u64 1518500250, .int .u64 1276901417, .int .u64 1170923762, .int .u64 1121280436, .int .u64 1097253708, .int .u64 1085434106, .int .u64 1079572136, .int .u64 1076653033, .int .u64 1075196443, .int .u64 1074468888, .int .u64 1074105294, .int .u64 1073923544, .int .u64 1073832680, .int .u64 1073787251, .int .u64 1073764537, .int .u64 1073753181]) (.int .i64 k)).run Tryz.prog w = .ok (.int .u64 (tabI k)) w := by
  rcases (by omega : k = 0 ∨ k = 1 ∨ k = 2 ∨ k = 3 ∨ k = 4 ∨ k = 5 ∨ k = 6 ∨ k = 7 ∨ k = 8 ∨ k = 9 ∨ k = 10 ∨ k = 11 ∨ k = 12 ∨ k = 13 ∨ k = 14 ∨ k = 15) with rfl | rfl | rfl | rfl | rfl | rfl | rfl | rfl | rfl | rfl | rfl | rfl | rfl | rfl | rfl | rfl <;> kernel_rfl

set_option maxHeartbeats 1000000 in
theorem part_any (f : Int) (w : World) (h0 : 0 ≤ f) (h1 : f < 65536) :
    Calls Tryz.prog 208 #[.int .i32 f] w fun e w' => e = .returned (.int .u64 (powI f 16)) ∧ Ext w w' := by
  go_enter Tryz.func208, Tryz.ntmps208
  go_wp2_with fail
  refine (powers_any _).mono ?_
  rintro e w1 ⟨rfl, hx⟩
  have X := hide hx
  clear hx
  go_wp2
  go_loopw [3, 7] (fun r i wr => ∃ k : Nat, k ≤ 16 ∧ r = .int .u64 (powI f k) ∧ i = .int .i64 k ∧ wr = w1) (fun _ i _ => 16 - (intOf i).toNat)
  case atStart => exact ⟨0, by omega, rfl, rfl, rfl⟩
  case round =>
    obtain ⟨k, hk, rfl, rfl, rfl⟩ := hrel
    by_cases hlt : k < 16
    · have hk16 : (k : Int) < 16 := by omega
      have hix := indexU k hlt
      have hm := powI_mul f k hlt
      have hp := powI_bounds f k (by omega)
      have E : Hid (powI f (k + 1) = if f / 2 ^ (15 - (k : Int)).toNat % 2 = 1 then powI f k * tabI k / 1073741824 else powI f k) := rfl
      have ha := i32_and1 (f / 2 ^ (15 - k))
      rw [show (15 - (k : Int)).toNat = 15 - k by omega] at E
      generalize powI f k = r at *
      generalize tabI k = t at *
      by_cases c : f / 2 ^ (15 - k) % 2 = 1
      · have E2 := hide ((unhide E).trans (if_pos c))
        have d : (bits .and .i32 (f / 2 ^ (15 - k)) 1 == 1) = true := by rw [ha, c]; rfl
        clear E c ha
        go_wp2
        go_roundw
        case rel => exact ⟨k + 1, by omega, by rw [unhide E2], by go_num, trivial⟩
        case measure => simp [intOf]; omega
      · have E2 := hide ((unhide E).trans (if_neg c))
        have d : (bits .and .i32 (f / 2 ^ (15 - k)) 1 == 1) = false := by rw [ha]; simp; omega
        clear E c ha
        go_wp2
        go_roundw
        case rel => exact ⟨k + 1, by omega, by rw [unhide E2], by go_num, trivial⟩
        case measure => simp [intOf]; omega
    · obtain rfl : k = 16 := by omega
      go_wp2
      go_ret
      exact ⟨rfl, unhide X⟩

theorem fract_eq {x : Int} (h : I32 x) : fractI x = x % 65536 := by
  unfold I32 at h
  unfold fractI subI floorI
  rw [rawI_id (by unfold I32; omega)]
  omega

set_option maxHeartbeats 1000000 in
theorem exp2_any (x : Int) (w : World) (h : I32 x) :
    Calls Tryz.prog 185 #[.int .i32 x] w fun e w' => e = .returned (.int .i32 (exp2I x)) ∧ Ext w w' := by
  have hE : Hid (exp2I x = if 15 ≤ x / 65536 then 2147483647 else if x / 65536 < -30 then 0 else powI (x % 65536) 16 / 2 ^ (14 - x / 65536).toNat) := rfl
  have hF := hide (fract_eq h)
  go_enter Tryz.func185, Tryz.ntmps185
  go_wp2_with fail
  refine (int_any _ _ h).mono ?_
  rintro e w1 ⟨rfl, rfl⟩
  by_cases c1 : 15 ≤ x / 65536
  · have d1 : decide (15 ≤ x / 65536) = true := by simp; omega
    have d1' : decide (x / 65536 ≥ 15) = true := by simp; omega
    have E2 := hide ((unhide hE).trans (if_pos c1))
    clear hE c1
    go_wp2
    go_ret
    exact ⟨by rw [unhide E2]; rfl, Ext.refl _⟩
  · have d1 : decide (15 ≤ x / 65536) = false := by simp; omega
    have d1' : decide (x / 65536 ≥ 15) = false := by simp; omega
    by_cases c2 : x / 65536 < -30
    · have d2 : decide (x / 65536 < -30) = true := by simp; omega
      have E2 := hide (((unhide hE).trans (if_neg c1)).trans (if_pos c2))
      clear hE
      go_wp2
      go_ret
      exact ⟨by rw [unhide E2]; rfl, Ext.refl _⟩
    · have d2 : decide (x / 65536 < -30) = false := by simp; omega
      have E2 := hide (((unhide hE).trans (if_neg c1)).trans (if_neg c2))
      clear hE
      have HH := hide h
      have hb := exp2_part (x % 65536) (14 - x / 65536).toNat
      have hp := powI_bounds (x % 65536) 16 (by omega)
      go_wp2_with fail
      refine (fract_any _ _ (unhide HH)).mono ?_
      rintro e w1 ⟨rfl, rfl⟩
      rw [unhide hF]
      go_wp2_with fail
      refine (part_any _ _ (by omega) (by omega)).mono ?_
      rintro e w2 ⟨rfl, hx⟩
      have X := hide hx
      clear hx
      unfold I32 at h
      go_wp2
      go_ret
      exact ⟨by rw [unhide E2]; rfl, unhide X⟩

set_option maxHeartbeats 1000000 in
theorem partLog_any (m : Int) (w : World) (h0 : 1073741824 ≤ m) (h1 : m < 2147483648) :
    Calls Tryz.prog 210 #[.int .u64 m] w fun e w' => e = .returned (.int .i32 (lgD m 16)) ∧ w' = w := by
  have HB := hide (lgM_bounds h0 h1)
  go_enter Tryz.func210, Tryz.ntmps210
  go_wp2
  go_loopw [0, 3, 4] (fun v d i wr => ∃ k : Nat, k ≤ 16 ∧ v = .int .u64 (lgM m k) ∧ d = .int .i32 (lgD m k) ∧ i = .int .i64 k ∧ wr = w) (fun _ _ i _ => 16 - (intOf i).toNat)
  case atStart => exact ⟨0, by omega, rfl, rfl, rfl, rfl⟩
  case round =>
    obtain ⟨k, hk, rfl, rfl, rfl, rfl⟩ := hrel
    by_cases hlt : k < 16
    · have hk16 : (k : Int) < 16 := by omega
      have hb := unhide HB k
      have hs := sq_bounds hb.1 hb.2
      have hd := lgD_bounds m k
      have hp : (2 : Int) ^ k ≤ 65536 := pow2_le (b := 16) (by omega)
      have E1 := hide (lgM_succ m k)
      have E2 := hide (lgD_succ m k)
      generalize lgM m k = v at *
      generalize lgD m k = d at *
      by_cases c : 2147483648 ≤ v * v / 1073741824
      · have t1 : decide (2147483648 ≤ v * v / 1073741824) = true := by simp; omega
        have t2 : decide (v * v / 1073741824 ≥ 2147483648) = true := by simp; omega
        have F1 := hide ((unhide E1).trans (if_pos c))
        have F2 := hide ((unhide E2).trans (if_pos c))
        clear E1 E2
        go_wp2
        go_roundw
        case rel => exact ⟨k + 1, by omega, by rw [unhide F1], by rw [unhide F2]; go_num, by go_num, trivial⟩
        case measure => simp [intOf]; omega
      · have t1 : decide (2147483648 ≤ v * v / 1073741824) = false := by simp; omega
        have t2 : decide (v * v / 1073741824 ≥ 2147483648) = false := by simp; omega
        have F1 := hide ((unhide E1).trans (if_neg c))
        have F2 := hide ((unhide E2).trans (if_neg c))
        clear E1 E2
        go_wp2
        go_roundw
        case rel => exact ⟨k + 1, by omega, by rw [unhide F1], by rw [unhide F2]; go_num, by go_num, trivial⟩
        case measure => simp [intOf]; omega
    · obtain rfl : k = 16 := by omega
      go_wp2
      go_ret
      exact ⟨rfl, rfl⟩

end Go.Proofs.YtglfhmlcmffoaaaGreat

/-
  The walks of maths' logarithms and powers of whatever number. What the dump lacks is left out.
-/
namespace Go.Proofs.YtglfhmlcmffoaaaGreat
open Go.RowKit
set_option linter.unusedVariables false
set_option linter.unusedSimpArgs false

set_option maxHeartbeats 1000000 in
theorem log2_any (x : Int) (w : World) (h : I32 x) :
    Calls Tryz.prog 186 #[.int .i32 x] w fun e w' => e = .returned (.int .i32 (log2I x)) ∧ ∃ m, w' = w.drewN m := by
  go_enter Tryz.func186, Tryz.ntmps186
  unfold I32 at h
  by_cases c : x ≤ 0
  · have hE := hide (show log2I x = -2147483648 by simp [log2I, c])
    go_wp2
    go_ret
    exact ⟨by rw [unhide hE]; rfl, 0, rfl⟩
  · have hl := lenI_is (x := x) (by omega) (by omega)
    have hm := len_mul hl
    have hd := lgD_bounds (x * 2 ^ (30 - lenI x).toNat) 16
    rw [show (2 : Int) ^ 16 = 65536 from rfl] at hd
    have hE := hide (show log2I x = 65536 * (lenI x - 16) + lgD (x * 2 ^ (30 - lenI x).toNat) 16 by simp [log2I, c])
    have hl0 := hl.1
    have hl1 := hl.2.1
    clear hl
    have hB : Hid (((Lib.bitLen x.toNat : Nat) : Int) = lenI x + 1) := by show _ = _; unfold lenI; omega
    go_wp2_with fail
    refine (Tryz.bits_Len32 _ _ (by omega) (by omega)).mono ?_
    rintro e w1 ⟨rfl, rfl⟩
    rw [unhide hB]
    have hs : (30 - lenI x).toNat = 30 - (lenI x).toNat := by omega
    generalize hL : lenI x = L at *
    have HL := hide hL
    clear hL
    have HO : Hid (rawI (65536 * (L - 16)) = 65536 * (L - 16)) := rawI_id (by unfold I32; omega)
    have HA : Hid (addI (rawI (65536 * (L - 16))) (lgD (x * 2 ^ (30 - L).toNat) 16) = log2I x) := by
      show _ = _
      rw [unhide HO, unhide hE]
      unfold addI
      exact rawI_id (by unfold I32; omega)
    have HD := hide hd
    have HM := hide hm
    clear hd hm hs
    go_wp2
    have hm := unhide HM
    go_quiet (first | (go_at_call 161; refine Calls.quiet_of_same (of_any _ _)) | (go_at_call 210; refine Calls.quiet_of_same (partLog_any _ _ (unhide HM).1 (unhide HM).2)) | (go_at_call 141; refine Calls.quiet_of_same (add_any _ _ _ (rawI_i32 _) (by have := unhide HD; unfold I32; omega))))
    rw [unhide HA]
    go_wp2
    go_ret
    exact ⟨rfl, _, rfl⟩

end Go.Proofs.YtglfhmlcmffoaaaGreat
