/-
  Buffers: the walks of NewBudget, Left, trade, Take, Give, New.
-/
import Derived.Test.YtagbenjaidikmaaBA
import Derived.BigQuiet
namespace Go.Proofs.Ytagbenjaidikmaa
open Go.RowKit

/-- A budget's cells: how many bytes in all, how many are taken. -/
def bud (all tk : Int) : Array Value := #[.int .i64 all, .int .i64 tk]
def BudOk (all tk : Int) : Prop := 0 ≤ tk ∧ tk ≤ all ∧ all ≤ 262144
theorem bud_all (all tk : Int) : (bud all tk)[0]? = some (.int .i64 all) := rfl
theorem bud_tk (all tk : Int) : (bud all tk)[1]? = some (.int .i64 tk) := rfl
theorem bud_set (all tk n : Int) : (bud all tk).setIfInBounds 1 (.int .i64 n) = bud all n := rfl

def trE (all tk e o : Int) : Int := if all - tk + e < o then 6 else 0
def trT (all tk e o : Int) : Int := if all - tk + e < o then tk else max 0 (tk - e + o)
theorem trT_ok {all tk e o : Int} (h : BudOk all tk) : BudOk all (trT all tk e o) := by
  obtain ⟨h1, h2, h3⟩ := h
  unfold trT BudOk
  split <;> omega

set_option maxHeartbeats 1000000 in
theorem newBudget_any (n : Int) (h0 : 0 ≤ n) (h1 : n ≤ 262144) (w : World) :
    Calls Try.prog 8 #[.int .i64 n] w fun e w' => e = .returned (.tuple #[.pointer (some ⟨w.heap.size, 0, none⟩), .int .i64 0]) ∧ w' = w.alloc (.cells (bud n 0) 60) := by
  go_enter Try.func8, Try.ntmps8
  go_wp2
  exact bodyPost_ret (v := .tuple #[.pointer (some ⟨w.heap.size, 0, none⟩), .int .i64 0]) (by simp [results, Try.results8, go_sem]) rfl ⟨rfl, rfl⟩
set_option maxHeartbeats 1000000 in
theorem newBudget_bad (n : Int) (h : n < 0 ∨ 262144 < n) (w : World) :
    Calls Try.prog 8 #[.int .i64 n] w fun e w' => e = .returned (.tuple #[.pointer none, .int .i64 2]) ∧ w' = w := by
  go_enter Try.func8, Try.ntmps8
  by_cases h0 : n < 0
  · have H := hide h
    clear h
    go_wp2
    exact bodyPost_ret (v := .tuple #[.pointer none, .int .i64 2]) (by simp [results, Try.results8, go_sem]) rfl ⟨rfl, rfl⟩
  · have h1 : 262144 < n := by omega
    have H := hide h
    clear h
    go_wp2
    exact bodyPost_ret (v := .tuple #[.pointer none, .int .i64 2]) (by simp [results, Try.results8, go_sem]) rfl ⟨rfl, rfl⟩

set_option maxHeartbeats 1000000 in
theorem left_any (G : Nat) (all tk : Int) (w : World) (hok : BudOk all tk) (hb : Blk w G (bud all tk) 60) :
    Calls Try.prog 21 #[.pointer (some ⟨G, 0, none⟩)] w fun e w' => e = .returned (.int .i64 (all - tk)) ∧ ∃ m, w' = w.drewN m := by
  obtain ⟨h0, h1, h2⟩ := hok
  have c0 := hb.cell (bud_all all tk)
  have c1 := hb.cell (bud_tk all tk)
  have HB := hide hb
  clear hb
  go_enter Try.func21, Try.ntmps21
  go_wp2_with fail
  go_quiet (fail)
  go_wp2
  go_ret
  exact ⟨rfl, _, rfl⟩
theorem left_nil (w : World) :
    Calls Try.prog 21 #[.pointer none] w fun e w' => e = .returned (.int .i64 0) ∧ w' = w := by
  go_enter Try.func21, Try.ntmps21
  go_wp2
  go_ret
  exact ⟨rfl, rfl⟩

theorem max0 (x : Int) : max 0 x = if 0 ≤ x then x else 0 := by split <;> omega

set_option maxHeartbeats 1000000 in
theorem trade_any (G : Nat) (all tk e o : Int) (w : World) (hok : BudOk all tk) (he : 0 ≤ e) (he2 : e ≤ 9223372036854775807 - 262144) (ho : 0 ≤ o) (ho2 : o ≤ 9223372036854775807) (hb : Blk w G (bud all tk) 60) :
    Calls Try.prog 27 #[.pointer (some ⟨G, 0, none⟩), .int .i64 e, .int .i64 o] w fun e' w' => e' = .returned (.int .i64 (trE all tk e o)) ∧ Blk w' G (bud all (trT all tk e o)) 60 ∧ w.grownBy w' (some G) := by
  go_enter Try.func27, Try.ntmps27
  go_wp2_with fail
  refine (left_any G all tk _ hok hb).mono ?_
  rintro e1 w1 ⟨rfl, m, rfl⟩
  obtain ⟨h0, h1, h2⟩ := hok
  have hb1 := hb.drewN m
  have hg1 : w.grownBy (w.drewN m) (some G) := ⟨rfl, rfl, rfl, Nat.le_refl _, fun _ _ _ => rfl⟩
  generalize w.drewN m = w1 at hb1 hg1
  have HG := hide hg1
  clear hg1 hb
  by_cases hf : all - tk + e < o
  · have E1 := hide (show trE all tk e o = 6 by unfold trE; rw [if_pos hf])
    have E2 := hide (show trT all tk e o = tk by unfold trT; rw [if_pos hf])
    have HB := hide hb1
    clear hb1
    go_wp2
    go_ret
    refine ⟨by rw [unhide E1]; rfl, by rw [unhide E2]; exact unhide HB, unhide HG⟩
  · have E1 := hide (show trE all tk e o = 0 by unfold trE; rw [if_neg hf])
    have c1 := hb1.cell (bud_tk all tk)
    have f1 := hb1.free 1
    by_cases hm : 0 < tk - e + o
    · have hb2 := hb1.set 1 (.int .i64 (tk - e + o))
      rw [bud_set] at hb2
      have E2 := hide (show trT all tk e o = tk - e + o by unfold trT; rw [if_neg hf]; omega)
      have HB := hide hb1
      have HB2 := hide hb2
      clear hb1 hb2
      go_wp2
      go_ret
      refine ⟨by rw [unhide E1]; rfl, by rw [unhide E2]; exact unhide HB2, (unhide HG).trans (grownBy_set _ _ _ _)⟩
    · have hb2 := hb1.set 1 (.int .i64 0)
      rw [bud_set] at hb2
      have E2 := hide (show trT all tk e o = 0 by unfold trT; rw [if_neg hf]; omega)
      have HB := hide hb1
      have HB2 := hide hb2
      clear hb1 hb2
      go_wp2
      go_ret
      refine ⟨by rw [unhide E1]; rfl, by rw [unhide E2]; exact unhide HB2, (unhide HG).trans (grownBy_set _ _ _ _)⟩

/-- What Take answers, and how many are taken then. -/
def tkE (all tk n : Int) : Int := if n < 0 then 2 else trE all tk 0 n
def tkT (all tk n : Int) : Int := if n < 0 then tk else trT all tk 0 n
set_option maxHeartbeats 1000000 in
theorem take_any (G : Nat) (all tk n : Int) (w : World) (hok : BudOk all tk) (hn : n ≤ 9223372036854775807) (hb : Blk w G (bud all tk) 60) :
    Calls Try.prog 24 #[.pointer (some ⟨G, 0, none⟩), .int .i64 n] w fun e' w' => e' = .returned (.int .i64 (tkE all tk n)) ∧ Blk w' G (bud all (tkT all tk n)) 60 ∧ w.grownBy w' (some G) := by
  go_enter Try.func24, Try.ntmps24
  by_cases h : n < 0
  · have HB := hide hb
    have E1 := hide (show tkE all tk n = 2 by unfold tkE; rw [if_pos h])
    have E2 := hide (show tkT all tk n = tk by unfold tkT; rw [if_pos h])
    have HO := hide hok
    clear hb hok
    go_wp2
    go_ret
    exact ⟨by rw [unhide E1]; rfl, by rw [unhide E2]; exact unhide HB, World.grownBy.refl _ _⟩
  · have E1 := hide (show tkE all tk n = trE all tk 0 n by unfold tkE; rw [if_neg h])
    have E2 := hide (show tkT all tk n = trT all tk 0 n by unfold tkT; rw [if_neg h])
    have HB := hide hb
    have HO := hide hok
    clear hb hok
    go_wp2_with fail
    refine (trade_any G all tk 0 n _ (unhide HO) (by omega) (by omega) (by omega) (by omega) (unhide HB)).mono ?_
    rintro e1 w1 ⟨rfl, h1, h2⟩
    have H1 := hide h1
    have H2 := hide h2
    clear h1 h2
    go_wp2
    go_ret
    exact ⟨by rw [unhide E1]; rfl, by rw [unhide E2]; exact unhide H1, unhide H2⟩
theorem take_nil (n : Int) (w : World) :
    Calls Try.prog 24 #[.pointer none, .int .i64 n] w fun e w' => e = .returned (.int .i64 1) ∧ w' = w := by
  go_enter Try.func24, Try.ntmps24
  go_wp2
  go_ret
  exact ⟨rfl, rfl⟩

/-- What Give answers, and how many are taken then. -/
def gvE (tk n : Int) : Int := if n < 0 ∨ tk < n then 2 else 0
def gvT (tk n : Int) : Int := if n < 0 ∨ tk < n then tk else tk - n
set_option maxHeartbeats 1000000 in
theorem give_any (G : Nat) (all tk n : Int) (w : World) (hok : BudOk all tk) (hb : Blk w G (bud all tk) 60) :
    Calls Try.prog 25 #[.pointer (some ⟨G, 0, none⟩), .int .i64 n] w fun e' w' => e' = .returned (.int .i64 (gvE tk n)) ∧ Blk w' G (bud all (gvT tk n)) 60 ∧ w.grownBy w' (some G) := by
  go_enter Try.func25, Try.ntmps25
  have c1 := hb.cell (bud_tk all tk)
  by_cases h : n < 0 ∨ tk < n
  · have HB := hide hb
    have E1 := hide (show gvE tk n = 2 by unfold gvE; rw [if_pos h])
    have E2 := hide (show gvT tk n = tk by unfold gvT; rw [if_pos h])
    have HO := hide hok
    clear hb hok
    by_cases h0 : n < 0
    · clear h
      go_wp2
      go_ret
      exact ⟨by rw [unhide E1]; rfl, by rw [unhide E2]; exact unhide HB, World.grownBy.refl _ _⟩
    · have h1 : tk < n := by omega
      clear h
      go_wp2
      go_ret
      exact ⟨by rw [unhide E1]; rfl, by rw [unhide E2]; exact unhide HB, World.grownBy.refl _ _⟩
  · have h0 : ¬ n < 0 := by omega
    have h1 : ¬ tk < n := by omega
    have HB := hide hb
    have HO := hide hok
    obtain ⟨q0, q1, q2⟩ := hok
    have E1 := hide (show gvE tk n = trE all tk n 0 by unfold gvE trE; rw [if_neg h, if_neg (by omega)])
    have E2 := hide (show gvT tk n = trT all tk n 0 by unfold gvT trT; rw [if_neg h, if_neg (by omega)]; omega)
    clear hb h
    go_wp2_with fail
    refine (trade_any G all tk n 0 _ (unhide HO) (by omega) (by omega) (by omega) (by omega) (unhide HB)).mono ?_
    rintro e1 w1 ⟨rfl, h1, h2⟩
    have H1 := hide h1
    have H2 := hide h2
    clear h1 h2
    go_wp2
    go_ret
    exact ⟨by rw [unhide E1]; rfl, by rw [unhide E2]; exact unhide H1, unhide H2⟩
theorem give_nil (n : Int) (w : World) :
    Calls Try.prog 25 #[.pointer none, .int .i64 n] w fun e w' => e = .returned (.int .i64 1) ∧ w' = w := by
  go_enter Try.func25, Try.ntmps25
  go_wp2
  go_ret
  exact ⟨rfl, rfl⟩
end Go.Proofs.Ytagbenjaidikmaa
