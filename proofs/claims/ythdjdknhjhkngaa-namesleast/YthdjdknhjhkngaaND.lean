/-
  Names: the function over which one ranges, and its walk.
-/
import Derived.Test.YthdjdknhjhkngaaNC
import Derived.RangeFuncNested
import Derived.RangeFuncBound
import Derived.RangeFuncCalls
import Derived.RangeFuncLeaves
import Derived.Shelf.Abstract
import Derived.Shelf.RegionOpen
import Derived.WalkKit
import Derived.OwnWalkIn
import Derived.TacticsInMore
import Derived.LoopNIn
import Derived.LoopIn
import Derived.Stop.RegionWithIn
import Derived.BigQuiet
namespace Go.Proofs.Ythdjdknhjhkngaa
open Go.RowKit Go.Shelf
attribute [local go_sem] Oper.semAt_some

set_option maxHeartbeats 1000000 in
theorem where_any (s : Nat → Int) (c : Int) (w : World) :
    Calls Try.prog 27 #[.agg (nst .u8 s), .int .u8 c] w fun e w' => e = .returned (.func (.func 32) #[] #[.pointer (some ⟨w.heap.size, 0, none⟩), .pointer (some ⟨w.heap.size + 1, 0, none⟩)]) ∧ w' = (w.alloc (.cells (nst .u8 s) 53)).alloc (.cells #[.int .u8 c] 51) := by
  go_enter Try.func27, Try.ntmps27
  go_wp2
  go_ret
  exact ⟨rfl, rfl⟩

/-- A name that stands as c. -/
abbrev Nam (s : Nat → Int) (c : Int) : Type := { x : Nat // 1 ≤ x ∧ x ≤ 64 ∧ s x = c }
def vals {s : Nat → Int} {c : Int} (l : List (Nam s c)) : List Nat := l.map (·.1)
/-- What a round must keep: the two blocks that the iterator reads. -/
def Kept (Ba Bs : Nat) (W W' : World) : Prop := W'.heap[Ba]? = W.heap[Ba]? ∧ W'.heap[Bs]? = W.heap[Bs]?

set_option maxRecDepth 100000 in
set_option maxHeartbeats 2000000 in
theorem iter_stops (n : Nat) (hn : 1 ≤ n) (s : Nat → Int) (c : Int) (Ba Bs : Nat) (w : World) (ha : Blk w Ba (nst .u8 s) 53) (hs : Blk w Bs #[.int .u8 c] 51) :
    SeqStopsK Fence.wide n Try.prog 32 #[.pointer (some ⟨Ba, 0, none⟩), .pointer (some ⟨Bs, 0, none⟩)] (fun x : Nam s c => #[Value.int .i64 (x.1 : Int)]) (Kept Ba Bs) (fun xs => vals xs = sel s c 64) (fun pre => vals pre <+: sel s c 64) (sel s c 64).length w := fun l J Jx W hW hJ hJx hY h0 => by
  have ha0 : Blk W Ba (nst .u8 s) 53 := (hW.block Ba ha.lt).trans ha
  have hs0 : Blk W Bs #[.int .u8 c] 51 := (hW.block Bs hs.lt).trans hs
  have HD := hide (And.intro ha hs)
  have HD0 := hide (And.intro ha0 hs0)
  clear ha hs ha0 hs0
  refine callsIn_of_wp Try.func32 rfl trivial ?_ rfl
  simp only [Try.ntmps32, List.size_toArray, List.length_cons, List.length_nil, Nat.reduceAdd, Nat.reduceSub, Array.replicate_succ, Array.replicate_zero, List.push_toArray, List.append_toArray, List.nil_append, List.cons_append]
  gi_wp2
  gi_loopw [4] (fun i wr => ∃ (k : Nat) (pre : List (Nam s c)), k ≤ 64 ∧ i = .int .i64 ((k : Int) + 1) ∧ vals pre = sel s c k ∧ J pre wr ∧ Blk wr Ba (nst .u8 s) 53 ∧ Blk wr Bs #[.int .u8 c] 51)
    (fun i _ => 65 - (intOf i).toNat)
  case atStart => exact ⟨0, [], by omega, rfl, rfl, h0, (unhide HD0).1, (unhide HD0).2⟩
  case round =>
    obtain ⟨k, pre, hk, rfl, hp, hJs, ha, hs⟩ := hrel
    by_cases hlt : k < 64
    · have hk2 : (k : Int) + 1 < 65 := by omega
      have ca := ha.cell (nst_get .u8 s (i := k + 1) (by omega))
      have cs := hs.cell (i := 0) rfl
      have HA := hide (And.intro ha hs)
      clear ha hs
      by_cases heq : s (k + 1) = c
      · have hd : (s (k + 1) == c) = true := by simp [heq]
        have hJd : J pre wr.drew := hJ pre wr wr.drew none hJs ⟨rfl, rfl, rfl, Nat.le_refl _, fun _ _ _ => rfl⟩ (fun r e => by cases e)
        have hlen : pre.length < (sel s c 64).length := by
          have h1 : pre.length = (sel s c k).length := by rw [← hp]; simp [vals]
          rw [h1]
          exact sel_lt (by omega) heq
        obtain ⟨x, hx⟩ : ∃ x : Nam s c, x.1 = k + 1 := ⟨⟨k + 1, by omega, by omega, heq⟩, rfl⟩
        have hp2 : vals (pre ++ [x]) = sel s c (k + 1) := by rw [sel_yes heq, ← hp]; simp [vals, hx]
        obtain ⟨fn, tmps, assign, body, hy, hR⟩ := hY pre x wr.drew hJd hlen
        have hR2 := hR.mono (R' := fun e W' => ∃ bl : Bool, e = .returned (.bool bl) ∧ ((bl = true ∧ J (pre ++ [x]) W' ∧ Kept Ba Bs wr.drew W') ∨ (bl = false ∧ Jx (pre ++ [x]) W'))) (by
          rintro e W' (⟨rfl, h1, h2⟩ | ⟨rfl, h1⟩)
          · exact ⟨true, rfl, .inl ⟨rfl, h1, h2⟩⟩
          · exact ⟨false, rfl, .inr ⟨rfl, h1⟩⟩)
        clear hR
        rw [show ((x.1 : Nat) : Int) = (k : Int) + 1 by rw [hx]; omega] at hy
        have HP := hide hp2
        clear hx hp2
        gi_wp2
        gi_region_with (refine hR2.mono ?_; rintro e W3 ⟨bl, rfl, HJ3⟩; replace HJ3 := hide HJ3)
        all_goals
          rcases unhide HJ3 with ⟨rfl, hJ3, hk3⟩ | ⟨rfl, hJx3⟩
          · gi_wp2
            go_roundw
            case rel => exact ⟨k + 1, pre ++ [x], by omega, by go_num, unhide HP, hJ3, hk3.1.trans (unhide HA).1, hk3.2.trans (unhide HA).2⟩
            case measure => simp [intOf]; omega
          · gi_wp2
            refine bodyPost_ret (results_none rfl _ _ _) rfl ?_
            exact ⟨⟨_, rfl⟩, .inr ⟨pre ++ [x], by rw [unhide HP]; exact sel_prefix _ _ (by omega), hJx3⟩⟩
      · have hd : (s (k + 1) == c) = false := by simp [heq]
        gi_wp2
        refine wpIn_wide.2 ?_
        go_quiet (fail)
        gi_wp2
        go_roundw
        case rel => exact ⟨k + 1, pre, by omega, by go_num, by rw [sel_no heq]; exact hp, hJ pre wr _ none hJs ⟨rfl, rfl, rfl, Nat.le_refl _, fun _ _ _ => rfl⟩ (fun r e => by cases e), (unhide HA).1.drewN _, (unhide HA).2.drewN _⟩
        case measure => simp [intOf]; omega
    · obtain rfl : k = 64 := by omega
      gi_wp2
      go_end0
      exact ⟨⟨_, rfl⟩, .inl ⟨pre, hp, hJs⟩⟩
end Go.Proofs.Ythdjdknhjhkngaa
