/-
  The walks of the document's logarithms, and of the powers of whatever number. What the dump lacks is left out.
-/
import Derived.Test.YtlggecbbliihiaaMX
namespace Go.Proofs.Ytlggecbbliihiaa
open Go.RowKit
set_option linter.unusedVariables false
set_option linter.unusedSimpArgs false

theorem pow31 {e : Nat} (h : e ≤ 30) : (0 : Int) < 2 ^ (e + 1) ∧ (2 : Int) ^ (e + 1) ≤ 2147483648 := ⟨pow2_pos _, pow2_le (b := 31) (by omega)⟩
theorem pow_small {e : Nat} {x : Int} (h : (2 : Int) ^ e ≤ x) (hx : x ≤ 2147483647) : e ≤ 30 := by
  rcases Nat.lt_or_ge 30 e with h1 | h1
  · have h2 : (2 : Int) ^ 31 ≤ 2 ^ e := pow2_le h1
    rw [show (2 : Int) ^ 31 = 2147483648 from rfl] at h2
    omega
  · exact h1

set_option maxHeartbeats 1000000 in
theorem refLog2_any (x : Int) (w : World) (h : I32 x) :
    Calls Try.prog 19 #[.int .i32 x] w fun e w' => e = .returned (.int .i32 (log2I x)) ∧ w' = w := by
  unfold I32 at h
  go_enter Try.func19, Try.ntmps19
  by_cases c : x ≤ 0
  · have hE := hide (show log2I x = -2147483648 by simp [log2I, c])
    go_wp2
    go_ret
    exact ⟨by rw [unhide hE]; rfl, rfl⟩
  · have HE := hide (show log2I x = 65536 * (lenI x - 16) + lgD (x * 2 ^ (30 - lenI x).toNat) 16 by simp [log2I, c])
    have HL := hide (lenI_is (x := x) (by omega) (by omega))
    go_wp2
    go_loopw [3] (fun v wr => ∃ e : Nat, e ≤ 30 ∧ v = .int .i64 e ∧ (2 : Int) ^ e ≤ x ∧ wr = w) (fun v _ => 31 - (intOf v).toNat)
    case atStart => exact ⟨0, by omega, rfl, by simp; omega, rfl⟩
    case round =>
      obtain ⟨e, he, rfl, hp, rfl⟩ := hrel
      have hb := pow31 he
      by_cases ct : (2 : Int) ^ (e + 1) ≤ x
      · have d : decide ((2 : Int) ^ (e + 1) ≤ x) = true := by simp; omega
        have hs := pow_small ct (by omega)
        have CT := hide ct
        clear ct hp
        go_wp2
        go_roundw
        case rel => exact ⟨e + 1, hs, by go_num, unhide CT, trivial⟩
        case measure => simp [intOf]; omega
      · have d : decide ((2 : Int) ^ (e + 1) ≤ x) = false := by simp; omega
        have hl : IsLen x e := ⟨by omega, by omega, by simpa using hp, by rw [Int.pow_succ] at ct; simp; omega⟩
        have hle := hl.unique (unhide HL)
        have hm := len_mul hl
        rw [← hle] at HE
        rw [show (30 - (e : Int)).toNat = 30 - e by omega] at hm HE
        clear hl hle HL hp ct
        go_wp2
        generalize x * 2 ^ (30 - e) = m at *
        have HB := hide (lgM_bounds hm.1 hm.2)
        go_loopw [4, 5, 21] (fun v d i ws => ∃ k : Nat, k ≤ 16 ∧ v = .int .i64 (lgM m k) ∧ d = .int .i64 (lgD m k) ∧ i = .int .i64 k ∧ ws = wr) (fun _ _ i _ => 16 - (intOf i).toNat)
        case atStart => exact ⟨0, by omega, rfl, rfl, rfl, rfl⟩
        case round =>
          obtain ⟨k, hk, rfl, rfl, rfl, rfl⟩ := hrel
          have hd := lgD_bounds m k
          have hp : (2 : Int) ^ k ≤ 65536 := pow2_le (b := 16) (by omega)
          by_cases hlt : k < 16
          · have hk16 : (k : Int) < 16 := by omega
            have hb := unhide HB k
            have hs := sq_bounds hb.1 hb.2
            have E1 := hide (lgM_succ m k)
            have E2 := hide (lgD_succ m k)
            generalize lgM m k = v at *
            generalize lgD m k = d at *
            by_cases c : 2147483648 ≤ v * v / 1073741824
            · have t1 : decide (2147483648 ≤ v * v / 1073741824) = true := by simp; omega
              have F1 := hide ((unhide E1).trans (if_pos c))
              have F2 := hide ((unhide E2).trans (if_pos c))
              clear E1 E2
              go_wp2
              go_roundw
              case rel => exact ⟨k + 1, by omega, by rw [unhide F1], by rw [unhide F2]; go_num, by go_num, trivial⟩
              case measure => simp [intOf]; omega
            · have t1 : decide (2147483648 ≤ v * v / 1073741824) = false := by simp; omega
              have F1 := hide ((unhide E1).trans (if_neg c))
              have F2 := hide ((unhide E2).trans (if_neg c))
              clear E1 E2
              go_wp2
              go_roundw
              case rel => exact ⟨k + 1, by omega, by rw [unhide F1], by rw [unhide F2]; go_num, by go_num, trivial⟩
              case measure => simp [intOf]; omega
          · obtain rfl : k = 16 := by omega
            generalize lgD m 16 = d at *
            go_wp2
            go_ret
            refine ⟨?_, rfl⟩
            rw [unhide HE]
            simp
            omega

/-- The raw of x to the power of y. -/
def powerI (x y : Int) : Int := if x ≤ 0 then 0 else exp2I (mulI y (log2I x))

theorem powOf_any (x y : Int) (w : World) (hx : I32 x) (hy : I32 y) :
    Calls Try.prog 20 #[.int .i32 x, .int .i32 y] w fun e w' => e = .returned (.int .i32 (powerI x y)) ∧ Ext w w' := by
  have HX := hide hx
  unfold I32 at hx
  go_enter Try.func20, Try.ntmps20
  by_cases c : x ≤ 0
  · have hE := hide (show powerI x y = 0 by simp [powerI, c])
    go_wp2
    go_ret
    exact ⟨by rw [unhide hE]; rfl, Ext.refl _⟩
  · have hE := hide (show powerI x y = exp2I (mulI y (log2I x)) by simp [powerI, c])
    go_wp2_with fail
    refine (log2_any _ _ (unhide HX)).mono ?_
    rintro e w1 ⟨rfl, m, rfl⟩
    go_wp2_with fail
    refine (mul_any _ _ _ hy (log2I_i32 (unhide HX))).mono ?_
    rintro e w1 ⟨rfl, rfl⟩
    go_wp2_with fail
    refine (exp2_any _ _ (mulI_i32 _ _)).mono ?_
    rintro e w2 ⟨rfl, hx2⟩
    have X := hide (((Ext.refl w).drewN m).trans hx2)
    clear hx2
    go_wp2
    go_ret
    exact ⟨by rw [unhide hE]; rfl, unhide X⟩

theorem refPowOf_any (x y : Int) (w : World) (hx : I32 x) (hy : I32 y) :
    Calls Try.prog 21 #[.int .i32 x, .int .i32 y] w fun e w' => e = .returned (.int .i32 (powerI x y)) ∧ Ext w w' := by
  have HX := hide hx
  unfold I32 at hx
  go_enter Try.func21, Try.ntmps21
  by_cases c : x ≤ 0
  · have hE := hide (show powerI x y = 0 by simp [powerI, c])
    go_wp2
    go_ret
    exact ⟨by rw [unhide hE]; rfl, Ext.refl _⟩
  · have hE := hide (show powerI x y = exp2I (mulI y (log2I x)) by simp [powerI, c])
    go_wp2_with fail
    refine (refLog2_any _ _ (unhide HX)).mono ?_
    rintro e w1 ⟨rfl, rfl⟩
    go_wp2_with fail
    refine (refMul_any _ _ _ hy (log2I_i32 (unhide HX))).mono ?_
    rintro e w1 ⟨rfl, rfl⟩
    go_wp2_with fail
    refine (refExp2_any _ _ (mulI_i32 _ _)).mono ?_
    rintro e w2 ⟨rfl, hx2⟩
    have X := hide hx2
    clear hx2
    go_wp2
    go_ret
    exact ⟨by rw [unhide hE]; rfl, unhide X⟩

end Go.Proofs.Ytlggecbbliihiaa
