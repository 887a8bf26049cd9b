/-
  Proved: BufferBudget answers true for every number of bytes and every list of numbers, and turns nothing that was there: whatever is taken of a budget, and given back, is counted, or refused. No condition but the form's own bound on what is read.
-/
import Derived.Test.YtagbenjaidikmaaBW
import Derived.Test.YtagbenjaidikmaaFr
namespace Go.Proofs.Ytagbenjaidikmaa
open Go.ChangeShapes Go.WideShapes Go.ChangeAt Go.RowKit
set_option linter.unusedVariables false
set_option linter.unusedSimpArgs false

set_option maxRecDepth 100000 in
set_option maxHeartbeats 4000000 in
theorem budget_walk (n : Int) (v : Value) (xs : List Int) (w : World) (hn : n ≤ 9223372036854775807) (hr : Row .i64 w v xs) (hb : ∀ x ∈ xs, I64 x) :
    Calls Try.prog 4 #[.int .i64 n, v] w fun e w' => e = .returned (.bool true) ∧ Ext w w' := by
  obtain ⟨ao, cap, rfl, hao, hlc, hcm⟩ := hr.shape
  have hcm2 : cap ≤ 9223372036854775807 := by unfold maxLen at hcm; omega
  clear hcm
  have HR := hide hr
  have HA := hide hao
  have HI := hide hb
  clear hr hao hb
  go_enter Try.func4, Try.ntmps4
  go_wp2_with fail
  refine (wakes_any _).mono ?_
  rintro e w1 ⟨rfl, hx1⟩
  have HX := hide hx1
  clear hx1
  by_cases hneg : n < 0
  · go_wp2_with fail
    refine (newBudget_blk 0 (by omega) (by omega) _).mono ?_
    rintro e w2 ⟨rfl, hG, hx2⟩
    obtain ⟨A, hA⟩ : ∃ A : Int, A = 0 := ⟨0, rfl⟩
    replace hG : Blk w2 w1.heap.size (bud A 0) 60 := by rw [hA]; exact hG
    have hA0 : 0 ≤ A := by omega
    have hA1 : A ≤ 262144 := by omega
    have HAE := hide (show (A == 0) = true by simp [hA])
    clear hA
    have HG := hide hG
    have H2 := hide ((unhide HX).trans hx2)
    have hs1 := (unhide HX).size
    clear hG hx2 HX
    go_wp2_with fail
    refine (left_any w1.heap.size A 0 _ ⟨by omega, by omega, by omega⟩ (unhide HG)).mono ?_
    rintro e w3 ⟨rfl, m, rfl⟩
    have hG3 := (unhide HG).drewN m
    have hX3 := (unhide H2).drewN m
    have e0 : A - 0 = A := by omega
    rw [e0]
    clear e0
    generalize w2.drewN m = w3 at hG3 hX3
    have H3 := hide (And.intro hG3 hX3)
    clear hG3 hX3 HG H2
    go_wp2_with fail
    go_loopw [28, 8] (fun i t wr => ∃ (k : Nat) (tk : Int), k ≤ xs.length ∧ k ≤ 100 ∧ i = .int .i64 (k : Int) ∧ t = .int .i64 tk ∧ BudOk A tk ∧ Blk wr w1.heap.size (bud A tk) 60 ∧ Ext w wr) (fun i _ _ => xs.length - (intOf i).toNat)
    case atStart => exact ⟨0, 0, Nat.zero_le _, Nat.zero_le _, rfl, rfl, ⟨by omega, by omega, by omega⟩, (unhide H3).1, (unhide H3).2⟩
    case round =>
      clear H3
      obtain ⟨k, tk, hk, hk1, rfl, rfl, hok, hB, hX⟩ := hrel
      by_cases hlt : k < xs.length
      · by_cases h100 : k = 100
        · subst h100
          obtain ⟨rb, ro, rfl, hc⟩ := (unhide HR).at 100 hlt
          have ck := World.cell?_of_block (w := w) (w' := wr) (a := ⟨rb, ro + 100, none⟩) (hX.block rb (World.block_lt_of_cell? w _ (hc 100 hlt)))
          rw [hc 100 hlt] at ck
          have HXX := hide hX
          clear hX hB hok hc
          have hkn : (100 : Int) < (xs.length : Int) := by omega
          have hae := unhide HAE
          clear HAE
          go_wp2
          go_ret
          exact ⟨rfl, unhide HXX⟩
        · obtain ⟨rb, ro, rfl, hc⟩ := (unhide HR).at k hlt
          have ck := World.cell?_of_block (w := w) (w' := wr) (a := ⟨rb, ro + k, none⟩) (hX.block rb (World.block_lt_of_cell? w _ (hc k hlt)))
          rw [hc k hlt] at ck
          have hin := unhide HI _ (List.getElem_mem hlt)
          generalize xs[k] = N at ck hin
          obtain ⟨hn1, hn2⟩ := hin
          obtain ⟨q0, q1, q2⟩ := hok
          have h100b : ((k : Int) == 100) = false := by simp; omega
          have hkn : (k : Int) < (xs.length : Int) := by omega
          have hk99 : k < 100 := by omega
          have H := hide (And.intro hB hX)
          clear hB hX hc h100
          by_cases hpar : k % 2 = 0
          · have hp : ((k : Int) % 2 == 0) = true := by simp; omega
            have HP := hide hpar
            clear hpar
            rcases (by omega : N < 0 ∨ (0 ≤ N ∧ A - tk < N) ∨ (0 ≤ N ∧ N ≤ A - tk)) with hN | ⟨hN, hM⟩ | ⟨hN, hM⟩
            · have hc := take_any w1.heap.size A tk N wr ⟨q0, q1, q2⟩ hn2 (unhide H).1
              have e1 : tkE A tk N = 2 := by unfold tkE trE; simp [hN]
              have e2 : tkT A tk N = tk := by unfold tkT trT; simp [hN]
              rw [e1, e2] at hc
              have HC := hide hc
              clear hc e1 e2
              go_wp2_with fail
              refine (unhide HC).mono ?_
              rintro e w4 ⟨rfl, hB4, hg4⟩
              have hX4 : Ext w w4 := Below.grown (unhide H).2 hg4 (unhide H).2.size (fun r e => by cases e; exact hs1)
              have H4 := hide (And.intro hB4 hX4)
              clear hB4 hX4 hg4 HC
              go_wp2_with fail
              refine (left_any w1.heap.size A (tk) _ ⟨by omega, by omega, by omega⟩ (unhide H4).1).mono ?_
              rintro e w5 ⟨rfl, m5, rfl⟩
              go_wp2
              go_roundw
              case rel => exact ⟨k + 1, tk, by omega, by omega, by go_num, rfl, ⟨by omega, by omega, by omega⟩, (unhide H4).1.drewN m5, (unhide H4).2.drewN m5⟩
              case measure => simp [intOf]; omega
            · have hc := take_any w1.heap.size A tk N wr ⟨q0, q1, q2⟩ hn2 (unhide H).1
              have e1 : tkE A tk N = 6 := by unfold tkE trE; rw [if_neg (by omega), if_pos (by omega)]
              have e2 : tkT A tk N = tk := by unfold tkT trT; rw [if_neg (by omega), if_pos (by omega)]
              rw [e1, e2] at hc
              have HC := hide hc
              clear hc e1 e2
              go_wp2_with fail
              refine (unhide HC).mono ?_
              rintro e w4 ⟨rfl, hB4, hg4⟩
              have hX4 : Ext w w4 := Below.grown (unhide H).2 hg4 (unhide H).2.size (fun r e => by cases e; exact hs1)
              have H4 := hide (And.intro hB4 hX4)
              clear hB4 hX4 hg4 HC
              go_wp2_with fail
              refine (left_any w1.heap.size A (tk) _ ⟨by omega, by omega, by omega⟩ (unhide H4).1).mono ?_
              rintro e w5 ⟨rfl, m5, rfl⟩
              go_wp2
              go_roundw
              case rel => exact ⟨k + 1, tk, by omega, by omega, by go_num, rfl, ⟨by omega, by omega, by omega⟩, (unhide H4).1.drewN m5, (unhide H4).2.drewN m5⟩
              case measure => simp [intOf]; omega
            · have hc := take_any w1.heap.size A tk N wr ⟨q0, q1, q2⟩ hn2 (unhide H).1
              have e1 : tkE A tk N = 0 := by unfold tkE trE; rw [if_neg (by omega), if_neg (by omega)]
              have e2 : tkT A tk N = tk + N := by unfold tkT trT; rw [if_neg (by omega), if_neg (by omega)]; omega
              rw [e1, e2] at hc
              have HC := hide hc
              clear hc e1 e2
              go_wp2_with fail
              refine (unhide HC).mono ?_
              rintro e w4 ⟨rfl, hB4, hg4⟩
              have hX4 : Ext w w4 := Below.grown (unhide H).2 hg4 (unhide H).2.size (fun r e => by cases e; exact hs1)
              have H4 := hide (And.intro hB4 hX4)
              clear hB4 hX4 hg4 HC
              go_wp2_with fail
              refine (left_any w1.heap.size A (tk + N) _ ⟨by omega, by omega, by omega⟩ (unhide H4).1).mono ?_
              rintro e w5 ⟨rfl, m5, rfl⟩
              go_wp2
              go_roundw
              case rel => exact ⟨k + 1, tk + N, by omega, by omega, by go_num, rfl, ⟨by omega, by omega, by omega⟩, (unhide H4).1.drewN m5, (unhide H4).2.drewN m5⟩
              case measure => simp [intOf]; omega
          · have hp : ((k : Int) % 2 == 0) = false := by simp; omega
            have HP := hide hpar
            clear hpar
            rcases (by omega : N < 0 ∨ (0 ≤ N ∧ tk < N) ∨ (0 ≤ N ∧ N ≤ tk)) with hN | ⟨hN, hM⟩ | ⟨hN, hM⟩
            · have hc := give_any w1.heap.size A tk N wr ⟨q0, q1, q2⟩ (unhide H).1
              have e1 : gvE tk N = 2 := by unfold gvE; rw [if_pos (by omega)]
              have e2 : gvT tk N = tk := by unfold gvT; rw [if_pos (by omega)]
              rw [e1, e2] at hc
              have HC := hide hc
              clear hc e1 e2
              go_wp2_with fail
              refine (unhide HC).mono ?_
              rintro e w4 ⟨rfl, hB4, hg4⟩
              have hX4 : Ext w w4 := Below.grown (unhide H).2 hg4 (unhide H).2.size (fun r e => by cases e; exact hs1)
              have H4 := hide (And.intro hB4 hX4)
              clear hB4 hX4 hg4 HC
              go_wp2_with fail
              refine (left_any w1.heap.size A (tk) _ ⟨by omega, by omega, by omega⟩ (unhide H4).1).mono ?_
              rintro e w5 ⟨rfl, m5, rfl⟩
              go_wp2
              go_roundw
              case rel => exact ⟨k + 1, tk, by omega, by omega, by go_num, rfl, ⟨by omega, by omega, by omega⟩, (unhide H4).1.drewN m5, (unhide H4).2.drewN m5⟩
              case measure => simp [intOf]; omega
            · have hc := give_any w1.heap.size A tk N wr ⟨q0, q1, q2⟩ (unhide H).1
              have e1 : gvE tk N = 2 := by unfold gvE; rw [if_pos (by omega)]
              have e2 : gvT tk N = tk := by unfold gvT; rw [if_pos (by omega)]
              rw [e1, e2] at hc
              have HC := hide hc
              clear hc e1 e2
              go_wp2_with fail
              refine (unhide HC).mono ?_
              rintro e w4 ⟨rfl, hB4, hg4⟩
              have hX4 : Ext w w4 := Below.grown (unhide H).2 hg4 (unhide H).2.size (fun r e => by cases e; exact hs1)
              have H4 := hide (And.intro hB4 hX4)
              clear hB4 hX4 hg4 HC
              go_wp2_with fail
              refine (left_any w1.heap.size A (tk) _ ⟨by omega, by omega, by omega⟩ (unhide H4).1).mono ?_
              rintro e w5 ⟨rfl, m5, rfl⟩
              go_wp2
              go_roundw
              case rel => exact ⟨k + 1, tk, by omega, by omega, by go_num, rfl, ⟨by omega, by omega, by omega⟩, (unhide H4).1.drewN m5, (unhide H4).2.drewN m5⟩
              case measure => simp [intOf]; omega
            · have hc := give_any w1.heap.size A tk N wr ⟨q0, q1, q2⟩ (unhide H).1
              have e1 : gvE tk N = 0 := by unfold gvE; rw [if_neg (by omega)]
              have e2 : gvT tk N = tk - N := by unfold gvT; rw [if_neg (by omega)]
              rw [e1, e2] at hc
              have HC := hide hc
              clear hc e1 e2
              go_wp2_with fail
              refine (unhide HC).mono ?_
              rintro e w4 ⟨rfl, hB4, hg4⟩
              have hX4 : Ext w w4 := Below.grown (unhide H).2 hg4 (unhide H).2.size (fun r e => by cases e; exact hs1)
              have H4 := hide (And.intro hB4 hX4)
              clear hB4 hX4 hg4 HC
              go_wp2_with fail
              refine (left_any w1.heap.size A (tk - N) _ ⟨by omega, by omega, by omega⟩ (unhide H4).1).mono ?_
              rintro e w5 ⟨rfl, m5, rfl⟩
              go_wp2
              go_roundw
              case rel => exact ⟨k + 1, tk - N, by omega, by omega, by go_num, rfl, ⟨by omega, by omega, by omega⟩, (unhide H4).1.drewN m5, (unhide H4).2.drewN m5⟩
              case measure => simp [intOf]; omega
      · obtain rfl : k = xs.length := by omega
        have HXX := hide hX
        clear hX hB hok
        have hae := unhide HAE
        clear HAE
        go_wp2
        go_ret
        exact ⟨rfl, unhide HXX⟩
  · go_wp2_with fail
    refine (newBudget_blk (n % 262145) (by omega) (by omega) _).mono ?_
    rintro e w2 ⟨rfl, hG, hx2⟩
    generalize hA : n % 262145 = A at *
    have hA0 : 0 ≤ A := by omega
    have hA1 : A ≤ 262144 := by omega
    have HAE := hide (show (A == n % 262145) = true by simp [hA])
    clear hA
    have HG := hide hG
    have H2 := hide ((unhide HX).trans hx2)
    have hs1 := (unhide HX).size
    clear hG hx2 HX
    go_wp2_with fail
    refine (left_any w1.heap.size A 0 _ ⟨by omega, by omega, by omega⟩ (unhide HG)).mono ?_
    rintro e w3 ⟨rfl, m, rfl⟩
    have hG3 := (unhide HG).drewN m
    have hX3 := (unhide H2).drewN m
    have e0 : A - 0 = A := by omega
    rw [e0]
    clear e0
    generalize w2.drewN m = w3 at hG3 hX3
    have H3 := hide (And.intro hG3 hX3)
    clear hG3 hX3 HG H2
    go_wp2_with fail
    go_loopw [28, 8] (fun i t wr => ∃ (k : Nat) (tk : Int), k ≤ xs.length ∧ k ≤ 100 ∧ i = .int .i64 (k : Int) ∧ t = .int .i64 tk ∧ BudOk A tk ∧ Blk wr w1.heap.size (bud A tk) 60 ∧ Ext w wr) (fun i _ _ => xs.length - (intOf i).toNat)
    case atStart => exact ⟨0, 0, Nat.zero_le _, Nat.zero_le _, rfl, rfl, ⟨by omega, by omega, by omega⟩, (unhide H3).1, (unhide H3).2⟩
    case round =>
      clear H3
      obtain ⟨k, tk, hk, hk1, rfl, rfl, hok, hB, hX⟩ := hrel
      by_cases hlt : k < xs.length
      · by_cases h100 : k = 100
        · subst h100
          obtain ⟨rb, ro, rfl, hc⟩ := (unhide HR).at 100 hlt
          have ck := World.cell?_of_block (w := w) (w' := wr) (a := ⟨rb, ro + 100, none⟩) (hX.block rb (World.block_lt_of_cell? w _ (hc 100 hlt)))
          rw [hc 100 hlt] at ck
          have HXX := hide hX
          clear hX hB hok hc
          have hkn : (100 : Int) < (xs.length : Int) := by omega
          have hae := unhide HAE
          clear HAE
          go_wp2
          go_ret
          exact ⟨rfl, unhide HXX⟩
        · obtain ⟨rb, ro, rfl, hc⟩ := (unhide HR).at k hlt
          have ck := World.cell?_of_block (w := w) (w' := wr) (a := ⟨rb, ro + k, none⟩) (hX.block rb (World.block_lt_of_cell? w _ (hc k hlt)))
          rw [hc k hlt] at ck
          have hin := unhide HI _ (List.getElem_mem hlt)
          generalize xs[k] = N at ck hin
          obtain ⟨hn1, hn2⟩ := hin
          obtain ⟨q0, q1, q2⟩ := hok
          have h100b : ((k : Int) == 100) = false := by simp; omega
          have hkn : (k : Int) < (xs.length : Int) := by omega
          have hk99 : k < 100 := by omega
          have H := hide (And.intro hB hX)
          clear hB hX hc h100
          by_cases hpar : k % 2 = 0
          · have hp : ((k : Int) % 2 == 0) = true := by simp; omega
            have HP := hide hpar
            clear hpar
            rcases (by omega : N < 0 ∨ (0 ≤ N ∧ A - tk < N) ∨ (0 ≤ N ∧ N ≤ A - tk)) with hN | ⟨hN, hM⟩ | ⟨hN, hM⟩
            · have hc := take_any w1.heap.size A tk N wr ⟨q0, q1, q2⟩ hn2 (unhide H).1
              have e1 : tkE A tk N = 2 := by unfold tkE trE; simp [hN]
              have e2 : tkT A tk N = tk := by unfold tkT trT; simp [hN]
              rw [e1, e2] at hc
              have HC := hide hc
              clear hc e1 e2
              go_wp2_with fail
              refine (unhide HC).mono ?_
              rintro e w4 ⟨rfl, hB4, hg4⟩
              have hX4 : Ext w w4 := Below.grown (unhide H).2 hg4 (unhide H).2.size (fun r e => by cases e; exact hs1)
              have H4 := hide (And.intro hB4 hX4)
              clear hB4 hX4 hg4 HC
              go_wp2_with fail
              refine (left_any w1.heap.size A (tk) _ ⟨by omega, by omega, by omega⟩ (unhide H4).1).mono ?_
              rintro e w5 ⟨rfl, m5, rfl⟩
              go_wp2
              go_roundw
              case rel => exact ⟨k + 1, tk, by omega, by omega, by go_num, rfl, ⟨by omega, by omega, by omega⟩, (unhide H4).1.drewN m5, (unhide H4).2.drewN m5⟩
              case measure => simp [intOf]; omega
            · have hc := take_any w1.heap.size A tk N wr ⟨q0, q1, q2⟩ hn2 (unhide H).1
              have e1 : tkE A tk N = 6 := by unfold tkE trE; rw [if_neg (by omega), if_pos (by omega)]
              have e2 : tkT A tk N = tk := by unfold tkT trT; rw [if_neg (by omega), if_pos (by omega)]
              rw [e1, e2] at hc
              have HC := hide hc
              clear hc e1 e2
              go_wp2_with fail
              refine (unhide HC).mono ?_
              rintro e w4 ⟨rfl, hB4, hg4⟩
              have hX4 : Ext w w4 := Below.grown (unhide H).2 hg4 (unhide H).2.size (fun r e => by cases e; exact hs1)
              have H4 := hide (And.intro hB4 hX4)
              clear hB4 hX4 hg4 HC
              go_wp2_with fail
              refine (left_any w1.heap.size A (tk) _ ⟨by omega, by omega, by omega⟩ (unhide H4).1).mono ?_
              rintro e w5 ⟨rfl, m5, rfl⟩
              go_wp2
              go_roundw
              case rel => exact ⟨k + 1, tk, by omega, by omega, by go_num, rfl, ⟨by omega, by omega, by omega⟩, (unhide H4).1.drewN m5, (unhide H4).2.drewN m5⟩
              case measure => simp [intOf]; omega
            · have hc := take_any w1.heap.size A tk N wr ⟨q0, q1, q2⟩ hn2 (unhide H).1
              have e1 : tkE A tk N = 0 := by unfold tkE trE; rw [if_neg (by omega), if_neg (by omega)]
              have e2 : tkT A tk N = tk + N := by unfold tkT trT; rw [if_neg (by omega), if_neg (by omega)]; omega
              rw [e1, e2] at hc
              have HC := hide hc
              clear hc e1 e2
              go_wp2_with fail
              refine (unhide HC).mono ?_
              rintro e w4 ⟨rfl, hB4, hg4⟩
              have hX4 : Ext w w4 := Below.grown (unhide H).2 hg4 (unhide H).2.size (fun r e => by cases e; exact hs1)
              have H4 := hide (And.intro hB4 hX4)
              clear hB4 hX4 hg4 HC
              go_wp2_with fail
              refine (left_any w1.heap.size A (tk + N) _ ⟨by omega, by omega, by omega⟩ (unhide H4).1).mono ?_
              rintro e w5 ⟨rfl, m5, rfl⟩
              go_wp2
              go_roundw
              case rel => exact ⟨k + 1, tk + N, by omega, by omega, by go_num, rfl, ⟨by omega, by omega, by omega⟩, (unhide H4).1.drewN m5, (unhide H4).2.drewN m5⟩
              case measure => simp [intOf]; omega
          · have hp : ((k : Int) % 2 == 0) = false := by simp; omega
            have HP := hide hpar
            clear hpar
            rcases (by omega : N < 0 ∨ (0 ≤ N ∧ tk < N) ∨ (0 ≤ N ∧ N ≤ tk)) with hN | ⟨hN, hM⟩ | ⟨hN, hM⟩
            · have hc := give_any w1.heap.size A tk N wr ⟨q0, q1, q2⟩ (unhide H).1
              have e1 : gvE tk N = 2 := by unfold gvE; rw [if_pos (by omega)]
              have e2 : gvT tk N = tk := by unfold gvT; rw [if_pos (by omega)]
              rw [e1, e2] at hc
              have HC := hide hc
              clear hc e1 e2
              go_wp2_with fail
              refine (unhide HC).mono ?_
              rintro e w4 ⟨rfl, hB4, hg4⟩
              have hX4 : Ext w w4 := Below.grown (unhide H).2 hg4 (unhide H).2.size (fun r e => by cases e; exact hs1)
              have H4 := hide (And.intro hB4 hX4)
              clear hB4 hX4 hg4 HC
              go_wp2_with fail
              refine (left_any w1.heap.size A (tk) _ ⟨by omega, by omega, by omega⟩ (unhide H4).1).mono ?_
              rintro e w5 ⟨rfl, m5, rfl⟩
              go_wp2
              go_roundw
              case rel => exact ⟨k + 1, tk, by omega, by omega, by go_num, rfl, ⟨by omega, by omega, by omega⟩, (unhide H4).1.drewN m5, (unhide H4).2.drewN m5⟩
              case measure => simp [intOf]; omega
            · have hc := give_any w1.heap.size A tk N wr ⟨q0, q1, q2⟩ (unhide H).1
              have e1 : gvE tk N = 2 := by unfold gvE; rw [if_pos (by omega)]
              have e2 : gvT tk N = tk := by unfold gvT; rw [if_pos (by omega)]
              rw [e1, e2] at hc
              have HC := hide hc
              clear hc e1 e2
              go_wp2_with fail
              refine (unhide HC).mono ?_
              rintro e w4 ⟨rfl, hB4, hg4⟩
              have hX4 : Ext w w4 := Below.grown (unhide H).2 hg4 (unhide H).2.size (fun r e => by cases e; exact hs1)
              have H4 := hide (And.intro hB4 hX4)
              clear hB4 hX4 hg4 HC
              go_wp2_with fail
              refine (left_any w1.heap.size A (tk) _ ⟨by omega, by omega, by omega⟩ (unhide H4).1).mono ?_
              rintro e w5 ⟨rfl, m5, rfl⟩
              go_wp2
              go_roundw
              case rel => exact ⟨k + 1, tk, by omega, by omega, by go_num, rfl, ⟨by omega, by omega, by omega⟩, (unhide H4).1.drewN m5, (unhide H4).2.drewN m5⟩
              case measure => simp [intOf]; omega
            · have hc := give_any w1.heap.size A tk N wr ⟨q0, q1, q2⟩ (unhide H).1
              have e1 : gvE tk N = 0 := by unfold gvE; rw [if_neg (by omega)]
              have e2 : gvT tk N = tk - N := by unfold gvT; rw [if_neg (by omega)]
              rw [e1, e2] at hc
              have HC := hide hc
              clear hc e1 e2
              go_wp2_with fail
              refine (unhide HC).mono ?_
              rintro e w4 ⟨rfl, hB4, hg4⟩
              have hX4 : Ext w w4 := Below.grown (unhide H).2 hg4 (unhide H).2.size (fun r e => by cases e; exact hs1)
              have H4 := hide (And.intro hB4 hX4)
              clear hB4 hX4 hg4 HC
              go_wp2_with fail
              refine (left_any w1.heap.size A (tk - N) _ ⟨by omega, by omega, by omega⟩ (unhide H4).1).mono ?_
              rintro e w5 ⟨rfl, m5, rfl⟩
              go_wp2
              go_roundw
              case rel => exact ⟨k + 1, tk - N, by omega, by omega, by go_num, rfl, ⟨by omega, by omega, by omega⟩, (unhide H4).1.drewN m5, (unhide H4).2.drewN m5⟩
              case measure => simp [intOf]; omega
      · obtain rfl : k = xs.length := by omega
        have HXX := hide hX
        clear hX hB hok
        have hae := unhide HAE
        clear HAE
        go_wp2
        go_ret
        exact ⟨rfl, unhide HXX⟩

theorem budget_owes (H : Type) (enc : TypeId × Value → H) (W : World) (base : Nat) (args : Array Value) (ds : List (DataW H)) (p : List MemPlace) : Owes H enc Try.prog 4 Try.f4 Rows.bufferBudgetSpec W base args ds p := by
  intro hval hA hsz
  rw [Try.params4] at hA hval hsz
  obtain ⟨v0, vs0, d0, ds0, p0, q0, hargs, rfl, rfl, h0, r0⟩ := trodAll_cons hA
  obtain ⟨v1, vs1, d1, ds1, p1, q1, rfl, rfl, rfl, h1, r1⟩ := trodAll_cons r0
  obtain ⟨rfl, rfl, rfl⟩ := trodAll_nil r1
  obtain rfl : args = #[v0, v1] := by cases args; simp_all
  obtain ⟨x, rfl, rfl, rfl, wx⟩ := open_int Try.underlying3 (hval 0 3 v0 rfl rfl) h0
  obtain ⟨xs, hrow, hwf, hlen⟩ := open_row Try.underlying53 Try.underlying3 (by kernel_rfl) (hval 1 53 v1 rfl rfl) h1 hsz (j := 1) rfl rfl
  exact ⟨⟨rfl, rfl, rfl⟩, budget_walk x v1 xs W (bounds_i64 wx).2 hrow (fun y hy => bounds_i64 (hwf y hy))⟩

set_option maxRecDepth 100000 in
theorem budget_lifted (os : Os) (started : os.Started) (H : Type) (enc : TypeId × Value → H) :
    ReturnsInHanded {} Try.checked os 4 .any (Rows.bufferBudgetSpec.pre6 enc Try.prog Try.f4 [] false) (Rows.bufferBudgetSpec.post enc Try.prog Try.f4 false true false false) :=
  lift_law (C := Try.checked) own laidOut started (by kernel_rfl) Try.func4 (T := 4) rfl Try.underlying4 rfl (by kernel_rfl)
    (ChangeSpec.witness6 (enc := enc) (C := Try.checked) false ⟨#[], #[.int .i64 0, .slice none 0 0], []⟩ 8 (by kernel_rfl) (by kernel_rfl) (by kernel_rfl) (by kernel_rfl)) (budget_owes H enc)

theorem bufferBudget_holds : Rows.BufferBudgetSaid :=
  OpenClaim.holds_of_wide 4 Try.f4 rfl rfl rfl rfl rfl rfl rfl ⟨rfl, rfl, rfl, rfl, rfl⟩ rfl rfl rfl rfl rfl (by kernel_rfl) Try.func4 (by kernel_rfl)
    (of_decide_eq_true (by kernel_rfl)) (by unfold Func.isWrapper; rw [if_neg (of_decide_eq_false (by kernel_rfl))]; exact ⟨rfl, rfl⟩)
    (fun os started H enc _ => budget_lifted os started H enc)
#print axioms bufferBudget_holds
end Go.Proofs.Ytagbenjaidikmaa
