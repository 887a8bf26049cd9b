/-
  The walks of the document's answer for bytes: Both, Same, Low. What the dump lacks is left out.
-/
import Derived.Test.YtagbenjaidikmaaW1
import Derived.Test.YtagbenjaidikmaaNum
import Derived.Deep.QuietTactic
import Derived.BigQuiet
namespace Go.Proofs.Ytagbenjaidikmaa
open Go.RowKit

theorem take_next (l : List Int) (k : Nat) (h : k < l.length) : l.take (k + 1) = l.take k ++ [l[k]] := List.take_succ_eq_append_getElem h

theorem drewN_drewN (w : World) (n m : Nat) : (w.drewN n).drewN m = w.drewN (n + m) := by simp [World.drewN, Nat.add_assoc]
theorem same_step {xs ys : List Int} {k : Nat} (hx : k < xs.length) (hy : k < ys.length) (h : xs.take k = ys.take k) (e : xs[k] = ys[k]) : xs.take (k + 1) = ys.take (k + 1) := by
  rw [take_next xs k hx, take_next ys k hy, h, e]
theorem same_parts {xs ys : List Int} {k : Nat} (hx : k < xs.length) (hy : k < ys.length) (e : ¬ xs[k] = ys[k]) : decide (xs = ys) = false := by
  simp only [decide_eq_false_iff_not]
  intro h
  subst h
  exact e rfl

set_option maxHeartbeats 1000000 in
theorem same_any (va vb : Value) (xs ys : List Int) (w : World) (ha : Row .u8 w va xs) (hb : Row .u8 w vb ys) (hm : xs.length ≤ 140737488355328) :
    Calls Try.prog 16 #[va, vb] w fun e w' => e = .returned (.bool (decide (xs = ys))) ∧ ∃ n, w' = w.drewN n := by
  obtain ⟨aa, ca, rfl, _, hla, _⟩ := ha.shape
  obtain ⟨ab, cb, rfl, _, hlb, _⟩ := hb.shape
  by_cases hl : xs.length = ys.length
  · have hne : ((xs.length : Int) != (ys.length : Int)) = false := by simp [hl]
    have HA := hide ha
    have HB := hide hb
    have HL := hide hl
    clear ha hb hla hlb hl
    go_enter Try.func16, Try.ntmps16
    go_wp2
    go_loopw [5] (fun i wr => ∃ k n : Nat, k ≤ xs.length ∧ i = .int .i64 k ∧ xs.take k = ys.take k ∧ wr = w.drewN n) (fun i _ => xs.length - (intOf i).toNat)
    case atStart => exact ⟨0, 0, Nat.zero_le _, rfl, by simp, rfl⟩
    case round =>
      obtain ⟨k, n, hk, rfl, heq, rfl⟩ := hrel
      have HE := hide heq
      clear heq
      by_cases hlt : k < xs.length
      · have hlt2 : k < ys.length := by have := unhide HL; omega
        obtain ⟨b, off, rfl, hc⟩ := (unhide HA).at k hlt
        obtain ⟨b2, off2, rfl, hc2⟩ := (unhide HB).at k hlt2
        have hck := hc k hlt
        have hck2 := hc2 k hlt2
        clear hc hc2
        by_cases he : xs[k] = ys[k]
        · have hv : (xs[k] != ys[k]) = false := by simp [he]
          have HS := hide (same_step hlt hlt2 (unhide HE) he)
          clear he
          go_wp2
          go_quiet (fail)
          go_wp2
          go_roundw
          case rel => exact ⟨k + 1, n + nq, by omega, by go_num, unhide HS, by first | rfl | exact drewN_drewN _ _ _⟩
          case measure => simp [intOf]; omega
        · have hv : (xs[k] != ys[k]) = true := by simp [he]
          have HS := hide (same_parts hlt hlt2 he)
          clear he
          go_wp2
          go_quiet (fail)
          go_wp2
          go_ret
          rw [unhide HS]
          exact ⟨rfl, n + nq, by first | rfl | exact drewN_drewN _ _ _⟩
      · have hd : decide (xs = ys) = true := by
          have h1 := unhide HE
          rw [List.take_of_length_le (by omega), List.take_of_length_le (by have := unhide HL; omega)] at h1
          simp [h1]
        have HD := hide hd
        clear hd
        go_wp2
        go_ret
        rw [unhide HD]
        exact ⟨rfl, _, rfl⟩
  · have hne : ((xs.length : Int) != (ys.length : Int)) = true := by rw [bne_iff_ne]; omega
    have hd : decide (xs = ys) = false := by
      simp only [decide_eq_false_iff_not]
      intro h
      exact hl (by rw [h])
    rw [hd]
    clear hd ha hb hla hlb hl
    go_enter Try.func16, Try.ntmps16
    go_wp2
    go_ret
    exact ⟨rfl, 0, rfl⟩

end Go.Proofs.Ytagbenjaidikmaa
