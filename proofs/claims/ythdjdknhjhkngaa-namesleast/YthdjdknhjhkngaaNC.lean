/-
  Names: the walks of Bind and Delete.
-/
import Derived.Test.YthdjdknhjhkngaaNB
namespace Go.Proofs.Ythdjdknhjhkngaa
open Go.RowKit

/-! ### what binding and deleting make of names -/
def bndS (s : Nat → Int) (n : Int) : Nat → Int := if 1 ≤ n ∧ n ≤ 64 then upd s n.toNat 2 else s
def bndB (b n : Int) : Int := if 0 ≤ n ∧ n ≤ 64 then n else b
def bndM (s : Nat → Int) (n : Int) : Bool := decide (1 ≤ n ∧ n ≤ 64) && (stI s n != 2)
def delS (s : Nat → Int) (n : Int) : Nat → Int := if 1 ≤ n ∧ n ≤ 64 then upd s n.toNat 0 else s
def delB (b n : Int) : Int := if b = n then 0 else b
theorem bndS_nat (s : Nat → Int) {k : Nat} (h1 : 1 ≤ k) (h : k ≤ 64) : bndS s (k : Int) = upd s k 2 := by unfold bndS; rw [if_pos (by omega)]; simp
theorem delS_nat (s : Nat → Int) {k : Nat} (h1 : 1 ≤ k) (h : k ≤ 64) : delS s (k : Int) = upd s k 0 := by unfold delS; rw [if_pos (by omega)]; simp
theorem delS_all (s : Nat → Int) (hz : s 0 = 0) {k : Nat} (h : k ≤ 64) : delS s (k : Int) = upd s k 0 := by
  by_cases h1 : 1 ≤ k
  · exact delS_nat s h1 h
  · obtain rfl : k = 0 := by omega
    rw [upd_same s 0 0 hz]
    unfold delS
    rw [if_neg (by omega)]
theorem bndM_nat (s : Nat → Int) {k : Nat} (h1 : 1 ≤ k) (h : k ≤ 64) : bndM s (k : Int) = (s k != 2) := by
  unfold bndM
  rw [stI_nat s h, decide_eq_true (by omega), Bool.true_and]
theorem Sane.bnd {s : Nat → Int} {b : Int} (h : Sane s b) (n : Int) : Sane (bndS s n) (bndB b n) := by
  by_cases h1 : 1 ≤ n ∧ n ≤ 64
  · obtain ⟨k, rfl⟩ := Int.eq_ofNat_of_zero_le (show 0 ≤ n by omega)
    rw [bndS_nat s (by omega) (by omega)]
    unfold bndB
    rw [if_pos (by omega)]
    exact h.bind (by omega) (by omega)
  · unfold bndS bndB
    rw [if_neg h1]
    by_cases h0 : 0 ≤ n ∧ n ≤ 64
    · obtain rfl : n = 0 := by omega
      rw [if_pos h0]
      exact h.none
    · rw [if_neg h0]
      exact h
theorem Sane.dele {s : Nat → Int} {b : Int} (h : Sane s b) (n : Int) : Sane (delS s n) (delB b n) := by
  by_cases h1 : 1 ≤ n ∧ n ≤ 64
  · obtain ⟨k, rfl⟩ := Int.eq_ofNat_of_zero_le (show 0 ≤ n by omega)
    rw [delS_nat s (by omega) (by omega)]
    exact h.del k
  · have e : delB b n = b := by
      unfold delB
      split
      · rename_i e
        subst e
        have := h.blow
        have := h.bhigh
        omega
      · rfl
    rw [e]
    unfold delS
    rw [if_neg h1]
    exact h

set_option maxHeartbeats 1000000 in
theorem bind_any (B : Nat) (s : Nat → Int) (b n : Int) (w : World) (hb : Blk w B (nms .u8 s b) 55) :
    Calls Try.prog 16 #[.pointer (some ⟨B, 0, none⟩), .int .i64 n] w fun e w' => e = .returned (.tuple #[.bool (bndM s n), .int .i64 (refI n)]) ∧ Blk w' B (nms .u8 (bndS s n) (bndB b n)) 55 ∧ w.grownBy w' (some B) := by
  go_enter Try.func16, Try.ntmps16
  go_wp2_with fail
  refine (refusal_any B n _).mono ?_
  rintro e w1 ⟨rfl, rfl⟩
  have c65 := hb.cell (nms_bound .u8 s b)
  have f65 := hb.free 65
  by_cases h : n < 0 ∨ 64 < n
  · have hr : (refI n != 0) = true := by rw [refI_bad h]; rfl
    have H := hide h
    have HB := hide hb
    clear hb h
    go_wp2
    have h := unhide H
    have e1 : bndM s n = false := by unfold bndM; rw [decide_eq_false (by omega), Bool.false_and]
    have e2 : bndS s n = s := by unfold bndS; rw [if_neg (by omega)]
    have e3 : bndB b n = b := by unfold bndB; rw [if_neg (by omega)]
    refine bodyPost_ret (v := .tuple #[.bool false, .int .i64 (refI n)]) (by simp [results, Try.results16, go_sem]) rfl ⟨?_, ?_, World.grownBy.refl _ _⟩
    · rw [e1]
    · rw [e2, e3]; exact unhide HB
  · obtain ⟨k, rfl⟩ := Int.eq_ofNat_of_zero_le (show 0 ≤ n by omega)
    have hr : (refI k != 0) = false := by rw [refI_ok (by omega) (by omega)]; rfl
    have hr0 := hide (refI_ok (n := (k : Int)) (by omega) (by omega))
    have hB0 : bndB b k = k := by unfold bndB; rw [if_pos (by omega)]
    have hb2 := hb.set 65 (.int .i64 (k : Int))
    rw [nms_setB] at hb2
    by_cases h0 : k = 0
    · subst h0
      have HB := hide hb
      have HB2 := hide hb2
      clear hb hb2 h
      go_wp2
      have e1 : bndM s ((0 : Nat) : Int) = false := by unfold bndM; rw [decide_eq_false (by omega), Bool.false_and]
      have e2 : bndS s ((0 : Nat) : Int) = s := by unfold bndS; rw [if_neg (by omega)]
      refine bodyPost_ret (v := .tuple #[.bool false, .int .i64 0]) (by simp [results, Try.results16, go_sem]) rfl ⟨?_, ?_, grownBy_set _ _ _ _⟩
      · rw [e1, unhide hr0]
      · rw [e2, hB0]; exact unhide HB2
    · have hk : k < 65 := by omega
      have hk2 : (k : Int) < 65 := by omega
      have hk0 : ((k : Int) == 0) = false := by simp; omega
      have ck := hb2.cell (nms_get .u8 s k hk)
      have fk := hb2.free k
      have hb3 := hb2.set k (.int .u8 2)
      rw [nms_set _ _ _ hk] at hb3
      have e1 := hide (bndM_nat s (k := k) (by omega) (by omega))
      have e2 := hide (bndS_nat s (k := k) (by omega) (by omega))
      have HB := hide hb
      have HB2 := hide hb2
      have HB3 := hide hb3
      have HB0 := hide hB0
      clear hb hb2 hb3 h hB0
      go_wp2
      refine bodyPost_ret (v := .tuple #[.bool (s k != 2), .int .i64 0]) (by simp [results, Try.results16, go_sem]) rfl ⟨?_, ?_, (grownBy_set _ _ _ _).trans (grownBy_set _ _ _ _)⟩
      · rw [unhide e1, unhide hr0]
      · rw [unhide e2, unhide HB0]; exact unhide HB3

theorem bind_nil (n : Int) (w : World) :
    Calls Try.prog 16 #[.pointer none, .int .i64 n] w fun e w' => e = .returned (.tuple #[.bool false, .int .i64 1]) ∧ w' = w := by
  go_enter Try.func16, Try.ntmps16
  go_wp2_with fail
  refine (refusal_nil n _).mono ?_
  rintro e w1 ⟨rfl, rfl⟩
  go_wp2
  exact bodyPost_ret (v := .tuple #[.bool false, .int .i64 1]) (by simp [results, Try.results16, go_sem]) rfl ⟨rfl, rfl⟩

set_option maxHeartbeats 1000000 in
theorem delete_any (B : Nat) (s : Nat → Int) (b n : Int) (w : World) (hS : Sane s b) (hb : Blk w B (nms .u8 s b) 55) :
    Calls Try.prog 17 #[.pointer (some ⟨B, 0, none⟩), .int .i64 n] w fun e w' => e = .returned (.tuple #[.bool (stI s n == 2), .int .i64 (refI n)]) ∧ Blk w' B (nms .u8 (delS s n) (delB b n)) 55 ∧ w.grownBy w' (some B) := by
  go_enter Try.func17, Try.ntmps17
  go_wp2_with fail
  refine (refusal_any B n _).mono ?_
  rintro e w1 ⟨rfl, rfl⟩
  by_cases h : n < 0 ∨ 64 < n
  · have hr : (refI n != 0) = true := by rw [refI_bad h]; rfl
    have H := hide h
    have HB := hide hb
    clear hb h
    go_wp2
    have h := unhide H
    have := hS.blow
    have := hS.bhigh
    have e1 : (stI s n == 2) = false := by rw [stI_bad s h]; rfl
    have e2 : delS s n = s := by unfold delS; rw [if_neg (by omega)]
    have e3 : delB b n = b := by unfold delB; rw [if_neg (by omega)]
    refine bodyPost_ret (v := .tuple #[.bool false, .int .i64 (refI n)]) (by simp [results, Try.results17, go_sem]) rfl ⟨?_, ?_, World.grownBy.refl _ _⟩
    · rw [e1]
    · rw [e2, e3]; exact unhide HB
  · obtain ⟨k, rfl⟩ := Int.eq_ofNat_of_zero_le (show 0 ≤ n by omega)
    have hr : (refI k != 0) = false := by rw [refI_ok (by omega) (by omega)]; rfl
    have hr0 := hide (refI_ok (n := (k : Int)) (by omega) (by omega))
    have hk : k < 65 := by omega
    have hk2 : (k : Int) < 65 := by omega
    have ck := hb.cell (nms_get .u8 s b hk)
    have fk := hb.free k
    have hb2 := hb.set k (.int .u8 0)
    rw [nms_set _ _ _ hk] at hb2
    have c65 := hb2.cell (nms_bound .u8 _ b)
    have f65 := hb2.free 65
    have hb3 := hb2.set 65 (.int .i64 0)
    rw [nms_setB] at hb3
    have e1 := hide (stI_nat s (k := k) (by omega))
    have e2 := hide (delS_all s hS.zero (k := k) (by omega))
    have HB := hide hb
    have HB2 := hide hb2
    have HB3 := hide hb3
    have HS := hide hS
    clear hb hb2 hb3 h hS
    by_cases hbk : b = (k : Int)
    · have hd : (b == (k : Int)) = true := by rw [hbk]; simp
      have HBK := hide hbk
      clear hbk
      go_wp2
      have e3 : delB b k = 0 := by unfold delB; rw [if_pos (unhide HBK)]
      refine bodyPost_ret (v := .tuple #[.bool (s k == 2), .int .i64 0]) (by simp [results, Try.results17, go_sem]) rfl ⟨?_, ?_, (grownBy_set _ _ _ _).trans (grownBy_set _ _ _ _)⟩
      · rw [unhide e1, unhide hr0]
      · rw [unhide e2, e3]; exact unhide HB3
    · have hd : (b == (k : Int)) = false := by simp [hbk]
      have HBK := hide hbk
      clear hbk
      go_wp2
      have e3 : delB b k = b := by unfold delB; rw [if_neg (unhide HBK)]
      refine bodyPost_ret (v := .tuple #[.bool (s k == 2), .int .i64 0]) (by simp [results, Try.results17, go_sem]) rfl ⟨?_, ?_, grownBy_set _ _ _ _⟩
      · rw [unhide e1, unhide hr0]
      · rw [unhide e2, e3]; exact unhide HB2

theorem delete_nil (n : Int) (w : World) :
    Calls Try.prog 17 #[.pointer none, .int .i64 n] w fun e w' => e = .returned (.tuple #[.bool false, .int .i64 1]) ∧ w' = w := by
  go_enter Try.func17, Try.ntmps17
  go_wp2_with fail
  refine (refusal_nil n _).mono ?_
  rintro e w1 ⟨rfl, rfl⟩
  go_wp2
  exact bodyPost_ret (v := .tuple #[.bool false, .int .i64 1]) (by simp [results, Try.results17, go_sem]) rfl ⟨rfl, rfl⟩
end Go.Proofs.Ythdjdknhjhkngaa
