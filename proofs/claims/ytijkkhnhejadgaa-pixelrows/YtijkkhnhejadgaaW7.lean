/-
  The walks of the document's answer for bytes: Both, Same, Low. What the dump lacks is left out.
-/
import Derived.Test.YtijkkhnhejadgaaW1
import Derived.Test.YtijkkhnhejadgaaNum
import Derived.Deep.QuietTactic
import Derived.BigQuiet
namespace Go.Proofs.Ytijkkhnhejadgaa
open Go.RowKit

theorem take_next (l : List Int) (k : Nat) (h : k < l.length) : l.take (k + 1) = l.take k ++ [l[k]] := List.take_succ_eq_append_getElem h

theorem drewN_drewN (w : World) (n m : Nat) : (w.drewN n).drewN m = w.drewN (n + m) := by simp [World.drewN, Nat.add_assoc]
theorem same_step {xs ys : List Int} {k : Nat} (hx : k < xs.length) (hy : k < ys.length) (h : xs.take k = ys.take k) (e : xs[k] = ys[k]) : xs.take (k + 1) = ys.take (k + 1) := by
  rw [take_next xs k hx, take_next ys k hy, h, e]
theorem same_parts {xs ys : List Int} {k : Nat} (hx : k < xs.length) (hy : k < ys.length) (e : ¬ xs[k] = ys[k]) : decide (xs = ys) = false := by
  simp only [decide_eq_false_iff_not]
  intro h
  subst h
  exact e rfl

set_option maxHeartbeats 1000000 in
theorem same_any (va vb : Value) (xs ys : List Int) (w : World) (ha : Row .u8 w va xs) (hb : Row .u8 w vb ys) (hm : xs.length ≤ 140737488355328) :
    Calls Try.prog 17 #[va, vb] w fun e w' => e = .returned (.bool (decide (xs = ys))) ∧ ∃ n, w' = w.drewN n := by
  obtain ⟨aa, ca, rfl, _, hla, _⟩ := ha.shape
  obtain ⟨ab, cb, rfl, _, hlb, _⟩ := hb.shape
  by_cases hl : xs.length = ys.length
  · have hne : ((xs.length : Int) != (ys.length : Int)) = false := by simp [hl]
    have HA := hide ha
    have HB := hide hb
    have HL := hide hl
    clear ha hb hla hlb hl
    go_enter Try.func17, Try.ntmps17
    go_wp2
    go_loopw [5] (fun i wr => ∃ k n : Nat, k ≤ xs.length ∧ i = .int .i64 k ∧ xs.take k = ys.take k ∧ wr = w.drewN n) (fun i _ => xs.length - (intOf i).toNat)
    case atStart => exact ⟨0, 0, Nat.zero_le _, rfl, by simp, rfl⟩
    case round =>
      obtain ⟨k, n, hk, rfl, heq, rfl⟩ := hrel
      have HE := hide heq
      clear heq
      by_cases hlt : k < xs.length
      · have hlt2 : k < ys.length := by have := unhide HL; omega
        obtain ⟨b, off, rfl, hc⟩ := (unhide HA).at k hlt
        obtain ⟨b2, off2, rfl, hc2⟩ := (unhide HB).at k hlt2
        have hck := hc k hlt
        have hck2 := hc2 k hlt2
        clear hc hc2
        by_cases he : xs[k] = ys[k]
        · have hv : (xs[k] != ys[k]) = false := by simp [he]
          have HS := hide (same_step hlt hlt2 (unhide HE) he)
          clear he
          go_wp2
          go_quiet (fail)
          go_wp2
          go_roundw
          case rel => exact ⟨k + 1, n + nq, by omega, by go_num, unhide HS, by first | rfl | exact drewN_drewN _ _ _⟩
          case measure => simp [intOf]; omega
        · have hv : (xs[k] != ys[k]) = true := by simp [he]
          have HS := hide (same_parts hlt hlt2 he)
          clear he
          go_wp2
          go_quiet (fail)
          go_wp2
          go_ret
          rw [unhide HS]
          exact ⟨rfl, n + nq, by first | rfl | exact drewN_drewN _ _ _⟩
      · have hd : decide (xs = ys) = true := by
          have h1 := unhide HE
          rw [List.take_of_length_le (by omega), List.take_of_length_le (by have := unhide HL; omega)] at h1
          simp [h1]
        have HD := hide hd
        clear hd
        go_wp2
        go_ret
        rw [unhide HD]
        exact ⟨rfl, _, rfl⟩
  · have hne : ((xs.length : Int) != (ys.length : Int)) = true := by rw [bne_iff_ne]; omega
    have hd : decide (xs = ys) = false := by
      simp only [decide_eq_false_iff_not]
      intro h
      exact hl (by rw [h])
    rw [hd]
    clear hd ha hb hla hlb hl
    go_enter Try.func17, Try.ntmps17
    go_wp2
    go_ret
    exact ⟨rfl, 0, rfl⟩

set_option maxHeartbeats 1000000 in
theorem low_any (x : Int) (n : Nat) (w : World) (hx0 : 0 ≤ x) (hx1 : x < 4294967296) (hn : n ≤ 4) :
    Calls Try.prog 31 #[.int .u64 x, .int .i64 (n : Int)] w fun e w' => ∃ ao cap, e = .returned (.slice ao n cap) ∧ Own .u8 w' w.heap.size 5 (.slice ao n cap) (low x n) ∧ Below w.heap.size w w' := by
  obtain ⟨i0, hi, hz0, hz1, hz2⟩ := info_parts info5
  go_enter Try.func31, Try.ntmps31
  go_wp2_with (first | (at_make; refine wpList_make_Zeros _ rfl _ _ 36 rfl w.heap.size 5 i0 .u8 Try.underlying36 hi hz0 hz1 _ _ _ _ n rfl rfl rfl rfl ?b1 ?b2 ?b3 ?_))
  case b1 => rw [hz2]; omega
  case b2 => unfold maxLen; omega
  case b3 => exact Nat.le_refl _
  intro w1 hown hgrow
  have hb1 : Below w.heap.size w w1 := grown_below hgrow (Nat.le_refl _) (fun k h => by cases h)
  have H1 := hide (And.intro hown hb1)
  clear hown hgrow hb1
  go_wp2
  go_loopw [0, 6] (fun xv i wr => ∃ k : Nat, k ≤ n ∧ i = .int .i64 k ∧ xv = .int .u64 (x / 256 ^ k) ∧ Own .u8 wr w.heap.size 5 (.slice (some ⟨w.heap.size, 0, none⟩) n n) (low x k ++ List.replicate (n - k) 0) ∧ Below w.heap.size w wr) (fun _ i _ => n - (intOf i).toNat)
  case atStart => exact ⟨0, Nat.zero_le _, rfl, by simp, (unhide H1).1, (unhide H1).2⟩
  case round =>
    obtain ⟨k, hk, rfl, rfl, hown, hbl⟩ := hrel
    have hd := Int.ediv_nonneg hx0 (show (0 : Int) ≤ 256 ^ k from Int.pow_nonneg (by omega))
    have hd2 : x / 256 ^ k < 4294967296 := Int.lt_of_le_of_lt (Int.ediv_le_self _ hx0) hx1
    have HS := hide (low_snoc x k)
    have HE : Hid (x / 256 ^ k / 256 = x / 256 ^ (k + 1)) := by
      rw [Int.pow_succ, Int.ediv_ediv_of_nonneg (Int.pow_nonneg (by omega))]; exact rfl
    generalize x / 256 ^ k = y at *
    by_cases hlt : k < n
    · have hck := hown.cellAt k (by rw [List.length_append, low_length, List.length_replicate]; omega)
      have hf := hown.frozenAt k
      have HO := hide (hown.stored k (y % 256))
      have HL := hide hbl
      clear hown hbl H1
      go_wp2
      go_roundw
      case rel =>
        refine ⟨k + 1, by omega, by go_num, congrArg _ (unhide HE), ?_, (unhide HL).setCell (Nat.le_refl _) _⟩
        have h := unhide HO
        have e := set_mid (low x k) (n - k) (y % 256) (by omega)
        rw [low_length] at e
        rw [e, ← unhide HS, Nat.sub_sub] at h
        exact h
      case measure => simp [intOf]; omega
    · have hkn : k = n := by omega
      subst hkn
      rw [Nat.sub_self, List.replicate_zero, List.append_nil] at hown
      have H3 := hide (And.intro hown hbl)
      clear hown hbl H1
      go_wp2
      go_ret
      exact ⟨_, _, rfl, unhide H3⟩
end Go.Proofs.Ytijkkhnhejadgaa
