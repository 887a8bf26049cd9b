/-
  The document's in, base, places. What the dump lacks is left out.
-/
import Derived.Test.YtfoffnbkfnbglaaCJ
import Derived.Test.YtfoffnbkfnbglaaCEq
namespace Go.Proofs.Ytfoffnbkfnbglaa
open Go.RowKit
set_option linter.unusedVariables false
set_option linter.unusedSimpArgs false

theorem refIn_any (x n : Int) (w : World) : Calls Try.prog 35 #[.int .i64 x, .int .i64 n] w fun e w' => e = .returned (.bool (inB x n)) ∧ w' = w := by
  by_cases h : 0 ≤ x
  · have e : inB x n = decide (x < n) := by simp [inB, h]
    rw [e]
    clear e
    go_enter Try.func35, Try.ntmps35
    go_wp2
    go_ret
    exact ⟨rfl, rfl⟩
  · have e : inB x n = false := by simp [inB, h]
    rw [e]
    clear e
    go_enter Try.func35, Try.ntmps35
    go_wp2
    go_ret
    exact ⟨rfl, rfl⟩

theorem refBase_any (x : Int) (w : World) : Calls Try.prog 51 #[.int .i64 x] w fun e w' => e = .returned (.bool (baseB x)) ∧ w' = w := by
  by_cases h : 1 ≤ x
  · have e : baseB x = decide (x ≤ 3) := by
      rw [Bool.eq_iff_iff]
      simp [baseB]
      omega
    rw [e]
    clear e
    go_enter Try.func51, Try.ntmps51
    go_wp2
    go_ret
    exact ⟨rfl, rfl⟩
  · have e : baseB x = false := by
      rw [Bool.eq_false_iff]
      simp [baseB]
      omega
    rw [e]
    clear e
    go_enter Try.func51, Try.ntmps51
    go_wp2
    go_ret
    exact ⟨rfl, rfl⟩

/-- No place ahead of the m-th says what the j-th says. -/
def plIn (I : Nat → Int) (tw : Bool) (j m : Nat) : Bool := (List.range m).all fun i => tw || !(I (12 + i) == I (12 + j))
def plAt (I : Nat → Int) (tw : Bool) (j : Nat) : Bool := inB (I (12 + j)) 4 && (if (j : Int) < I 3 then plIn I tw j j else I (12 + j) == 0)
def plTo (I : Nat → Int) (tw : Bool) (k : Nat) : Bool := (List.range k).all fun j => plAt I tw j
theorem plIn_succ (I : Nat → Int) (tw : Bool) (j m : Nat) : plIn I tw j (m + 1) = (plIn I tw j m && (tw || !(I (12 + m) == I (12 + j)))) := by
  unfold plIn
  rw [List.range_succ, List.all_append]
  simp
theorem plTo_succ (I : Nat → Int) (tw : Bool) (k : Nat) : plTo I tw (k + 1) = (plTo I tw k && plAt I tw k) := by
  unfold plTo
  rw [List.range_succ, List.all_append]
  simp
theorem plTo_false {I : Nat → Int} {tw : Bool} {k n : Nat} (h : plAt I tw k = false) (hk : k < n) : plTo I tw n = false := by
  unfold plTo
  rw [List.all_eq_false]
  exact ⟨k, List.mem_range.2 hk, by rw [h]; decide⟩
theorem plIn_false {I : Nat → Int} {tw : Bool} {j k n : Nat} (h : (tw || !(I (12 + k) == I (12 + j))) = false) (hk : k < n) : plIn I tw j n = false := by
  unfold plIn
  rw [List.all_eq_false]
  exact ⟨k, List.mem_range.2 hk, by rw [h]; decide⟩
theorem idx_k (I : Nat → Int) (k : Nat) (hk : k < 4) (w : World) : (Instr.index 37 (.agg #[.int .i64 (I 12), .int .i64 (I 13), .int .i64 (I 14), .int .i64 (I 15)]) (.int .i64 (k : Int))).run Try.prog w = .ok (.int .i64 (I (12 + k))) w := by
  rcases (by omega : k = 0 ∨ k = 1 ∨ k = 2 ∨ k = 3) with rfl | rfl | rfl | rfl
  · exact idx_0 _ _ _ _ w
  · exact idx_1 _ _ _ _ w
  · exact idx_2 _ _ _ _ w
  · exact idx_3 _ _ _ _ w
theorem cellK {w : World} {b : Nat} {I : Nat → Int} {t : TypeId} (h : Blk w b (insA I) t) (k : Nat) (hk : k < 4) : w.cell? ⟨b, 12 + k, none⟩ = some (.int .i64 (I (12 + k))) := by
  rcases (by omega : k = 0 ∨ k = 1 ∨ k = 2 ∨ k = 3) with rfl | rfl | rfl | rfl
  all_goals exact h.cell rfl

set_option maxRecDepth 10000 in
set_option maxHeartbeats 4000000 in
theorem refPlaces_any (I : Nat → Int) (tw : Bool) (w : World) : Calls Try.prog 50 #[.agg (insA I), .bool tw] w fun e w' => e = .returned (.bool (cntB (I 3) && plTo I tw 4)) ∧ Ext w w' := by
  have HB := hide (Blk.new w (insA I) 39)
  obtain ⟨_, _, _, c3, _, _, _, _⟩ := cellJ (unhide HB)
  obtain ⟨p0, p1, p2, p3⟩ := cellP (unhide HB)
  have HX := hide ((Ext.refl w).alloc (.cells (insA I) 39))
  by_cases hc : 1 ≤ I 3 ∧ I 3 ≤ 4
  case neg =>
    have e : (cntB (I 3) && plTo I tw 4) = false := by
      have : cntB (I 3) = false := by
        rw [Bool.eq_false_iff]
        simp [cntB]
        omega
      rw [this]; rfl
    rw [e]
    clear e
    generalize insA I = cs at *
    generalize I 3 = n at *
    by_cases h1 : n < 1
    · go_enter Try.func50, Try.ntmps50
      go_wp2
      go_ret
      exact ⟨rfl, unhide HX⟩
    · have h2 : 4 < n := by omega
      go_enter Try.func50, Try.ntmps50
      go_wp2
      go_ret
      exact ⟨rfl, unhide HX⟩
  case pos =>
  obtain ⟨hc1, hc2⟩ := hc
  have EE : Hid ((cntB (I 3) && plTo I tw 4) = plTo I tw 4) := by
    have : cntB (I 3) = true := by simp [cntB, hc1, hc2]
    rw [Hid, this]; rfl
  obtain ⟨y, hy⟩ : ∃ y, y = (cntB (I 3) && plTo I tw 4) := ⟨_, rfl⟩
  rw [← hy] at EE ⊢
  clear hy
  have XK := hide (fun k hk wx => idx_k I k hk wx)
  have CK := hide (fun k hk => cellK (unhide HB) k hk)
  have EA : Hid (∀ j, plAt I tw j = (inB (I (12 + j)) 4 && (if (j : Int) < I 3 then plIn I tw j j else I (12 + j) == 0))) := fun _ => rfl
  have n1 : ¬ I 3 < 1 := by omega
  have n2 : ¬ 4 < I 3 := by omega
  go_enter Try.func50, Try.ntmps50
  go_wp2
  go_loopw [18] (fun iv wr => ∃ k : Nat, k ≤ 4 ∧ iv = .int .i64 (k : Int) ∧ wr = w.alloc (.cells (insA I) 39) ∧ plTo I tw k = true) (fun iv _ => 4 - (intOf iv).toNat)
  case atStart => exact ⟨0, by omega, rfl, rfl, rfl⟩
  case round =>
    obtain ⟨k, hk, rfl, rfl, ht⟩ := hrel
    have HT := hide ht
    clear ht
    by_cases hlt : k < 4
    · have hk4 : (k : Int) < 4 := by omega
      have xk := unhide XK k hlt
      have EK := hide (unhide EA k)
      have HS := hide (plTo_succ I tw k)
      have HF := hide (fun h => plTo_false (I := I) (tw := tw) (k := k) (n := 4) h hlt)
      obtain ⟨x, hx⟩ : ∃ x, x = I (12 + k) := ⟨_, rfl⟩
      rw [← hx] at xk EK
      have HXK := hide hx
      clear hx
      cases q : inB x 4
      case false =>
        rw [q] at EK
        go_wp2_with (go_at_call 35; refine (refIn_any _ _ _).mono ?_; rintro e w1 ⟨rfl, rfl⟩)
        go_ret
        rw [unhide EE, unhide HF (unhide EK)]
        exact ⟨rfl, unhide HX⟩
      case true =>
        rw [q] at EK
        rw [Bool.true_and] at EK
        by_cases hn : (k : Int) < I 3
        · rw [if_pos hn] at EK
          go_wp2_with (go_at_call 35; refine (refIn_any _ _ _).mono ?_; rintro e w1 ⟨rfl, rfl⟩)
          go_loopw [7] (fun iv wq => ∃ m : Nat, m ≤ k ∧ iv = .int .i64 (m : Int) ∧ wq = w.alloc (.cells (insA I) 39) ∧ plIn I tw k m = true) (fun iv _ => k - (intOf iv).toNat)
          case atStart => exact ⟨0, Nat.zero_le _, rfl, rfl, rfl⟩
          case round =>
            obtain ⟨m, hm, rfl, rfl, hi⟩ := hrel
            have HI := hide hi
            clear hi
            by_cases hmk : m < k
            · have hmk' : (m : Int) < (k : Int) := by omega
              have cm := unhide CK m (by omega)
              have ES := hide (plIn_succ I tw k m)
              have EF := hide (fun h => plIn_false (I := I) (tw := tw) (j := k) (k := m) (n := k) h hmk)
              rw [← unhide HXK] at ES EF
              generalize I (12 + m) = z at *
              cases tw
              · cases q2 : (z == x)
                · go_wp2
                  go_roundw
                  case rel => exact ⟨m + 1, by omega, by go_num, by first | rfl | trivial, by rw [unhide ES, unhide HI, q2]; rfl⟩
                  case measure => simp [intOf]; omega
                · go_wp2
                  go_ret
                  rw [unhide EE, unhide HF (by rw [unhide EK]; exact unhide EF (by rw [q2]; rfl))]
                  exact ⟨rfl, unhide HX⟩
              · go_wp2
                go_roundw
                case rel => exact ⟨m + 1, by omega, by go_num, by first | rfl | trivial, by rw [unhide ES, unhide HI]; rfl⟩
                case measure => simp [intOf]; omega
            · obtain rfl : m = k := by omega
              go_wp2
              go_roundw
              case rel => exact ⟨m + 1, by omega, by go_num, by first | rfl | trivial, by rw [unhide HS, unhide HT, unhide EK, unhide HI]; rfl⟩
              case measure => simp [intOf]; omega
        · rw [if_neg hn] at EK
          cases q2 : (x == 0)
          · have q3 : (x != 0) = true := by simp [bne, q2]
            go_wp2_with (go_at_call 35; refine (refIn_any _ _ _).mono ?_; rintro e w1 ⟨rfl, rfl⟩)
            go_ret
            rw [unhide EE, unhide HF (by rw [unhide EK]; exact q2)]
            exact ⟨rfl, unhide HX⟩
          · have q3 : (x != 0) = false := by simp [bne, q2]
            by_cases h0 : k = 0
            · omega
            · have hk0 : (0 : Int) < (k : Int) := by omega
              go_wp2_with (go_at_call 35; refine (refIn_any _ _ _).mono ?_; rintro e w1 ⟨rfl, rfl⟩)
              refine wp_loop_rounds 1 ?_
              rw [rounds_succ]
              go_wp2
              go_roundw
              case rel => exact ⟨k + 1, by omega, by go_num, by first | rfl | trivial, by rw [unhide HS, unhide HT, unhide EK, q2]; rfl⟩
              case measure => simp [intOf]; omega
    · obtain rfl : k = 4 := by omega
      go_wp2
      go_ret
      rw [unhide EE, unhide HT]
      exact ⟨rfl, unhide HX⟩
end Go.Proofs.Ytfoffnbkfnbglaa
