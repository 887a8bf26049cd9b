/-
  Images: the function over which one ranges (places), and its walk.
-/
import Derived.Test.YtpjapdifmfpcnaaJB
import Derived.Test.YtpjapdifmfpcnaaQR
import Derived.Shelf.RegionOpen
import Derived.WalkKit
import Derived.OwnWalkIn
import Derived.TacticsInMore
import Derived.LoopNIn
import Derived.LoopIn
import Derived.Stop.RegionWithIn
namespace Go.Proofs.Ytpjapdifmfpcnaa
open Go.RowKit Go.Shelf
set_option linter.unusedVariables false
set_option linter.unusedSimpArgs false
attribute [local go_sem] Oper.semAt_some

set_option maxHeartbeats 1000000 in
theorem places_any (W H X Y pw ph : Int) (ao : Option Addr) (n cap : Nat) (w : World) :
    Calls Try.prog 27 #[.agg #[.int .i64 W, .int .i64 H, .slice ao n cap], .agg #[.int .i64 X, .int .i64 Y, .int .i64 pw, .int .i64 ph]] w fun e w' => e = .returned (.func (.func 51) #[] #[.pointer (some ⟨w.heap.size + 1, 0, none⟩), .pointer (some ⟨w.heap.size, 0, none⟩)]) ∧
      w' = (w.alloc (.cells #[.int .i64 W, .int .i64 H, .slice ao n cap] 48)).alloc (.cells #[.int .i64 X, .int .i64 Y, .int .i64 pw, .int .i64 ph] 26) := by
  go_enter Try.func27, Try.ntmps27
  go_wp2
  go_ret
  exact ⟨rfl, rfl⟩

/-- A place in a level of N pixels. -/
abbrev Plc (N : Nat) : Type := { x : Nat // x < N }
def vals {N : Nat} (l : List (Plc N)) : List Nat := l.map (·.1)
theorem vals_snoc {N : Nat} (l : List (Plc N)) (x : Plc N) : vals (l ++ [x]) = vals l ++ [x.1] := by simp [vals]
/-- The places of a piece. -/
def plcs (W X Y pw ph : Nat) : List Nat := (List.range (pw * ph)).map (pq W X Y pw)
theorem plcs_len (W X Y pw ph : Nat) : (plcs W X Y pw ph).length = pw * ph := by simp [plcs]
theorem plcs_snoc {W X Y pw ph k : Nat} (h : k < pw * ph) : (plcs W X Y pw ph).take (k + 1) = (plcs W X Y pw ph).take k ++ [pq W X Y pw k] := by
  rw [List.take_succ_eq_append_getElem (by rw [plcs_len]; exact h)]
  simp [plcs]
/-- What a round must keep: the two blocks that the iterator reads. -/
def Kept (Ba Bs : Nat) (W W' : World) : Prop := W'.heap[Ba]? = W.heap[Ba]? ∧ W'.heap[Bs]? = W.heap[Bs]?
theorem kept_put {Ba Bs : Nat} {W : World} {l : Nat} {o' : Obj} (ha : Ba ≠ l) (hs : Bs ≠ l) : Kept Ba Bs W (W.putObj l o') := ⟨World.putObj_heap_other ha, World.putObj_heap_other hs⟩
theorem Kept.trans {Ba Bs : Nat} {A B C : World} (h : Kept Ba Bs A B) (k : Kept Ba Bs B C) : Kept Ba Bs A C := ⟨k.1.trans h.1, k.2.trans h.2⟩
theorem blk_kept {W W' : World} {b : Nat} {cs : Array Value} {t : TypeId} {row : Option Nat} (h : Blk W b cs t) (hg : W.grownBy W' row) (hr : ∀ r, row = some r → ∃ o : Obj, W.heap[r]? = some o ∧ o.isCells = false) : Blk W' b cs t := by
  refine (hg.block b h.lt ?_).trans h
  intro e
  obtain ⟨o, ho, hc⟩ := hr b e.symm
  rw [show W.heap[b]? = some (.cells cs t (0, 0)) from h] at ho
  cases ho
  cases hc

set_option maxRecDepth 100000 in
set_option maxHeartbeats 4000000 in
theorem iter_stops (n : Nat) (hn : 1 ≤ n) (W H X Y pw ph : Nat) (hW : W ≤ 64) (hH : H ≤ 64) (hx : X + pw ≤ W) (hy : Y + ph ≤ H) (va : Value) (Bp Bl : Nat) (w : World) (hp : Blk w Bp #[.int .i64 (X : Int), .int .i64 (Y : Int), .int .i64 (pw : Int), .int .i64 (ph : Int)] 26) (hl : Blk w Bl #[.int .i64 (W : Int), .int .i64 (H : Int), va] 48) :
    SeqStopsK Fence.wide n Try.prog 51 #[.pointer (some ⟨Bp, 0, none⟩), .pointer (some ⟨Bl, 0, none⟩)] (fun x : Plc (W * H) => #[Value.int .i64 (x.1 : Int)]) (Kept Bp Bl) (fun xs => vals xs = plcs W X Y pw ph) (fun pre => vals pre <+: plcs W X Y pw ph) (pw * ph) w := fun l J Jx Wd hWd hJ hJx hY h0 => by
  have hp0 : Blk Wd Bp _ _ := (hWd.block Bp hp.lt).trans hp
  have hl0 : Blk Wd Bl _ _ := (hWd.block Bl hl.lt).trans hl
  have HD := hide (And.intro hp hl)
  have HD0 := hide (And.intro hp0 hl0)
  have y0 := hp0.four.2.1
  clear hp hl hp0 hl0
  refine callsIn_of_wp Try.func51 rfl trivial ?_ rfl
  simp only [Try.ntmps51, List.size_toArray, List.length_cons, List.length_nil, Nat.reduceAdd, Nat.reduceSub, Array.replicate_succ, Array.replicate_zero, List.push_toArray, List.append_toArray, List.nil_append, List.cons_append]
  gi_wp2
  clear y0
  gi_loopw [4] (fun yv wr => ∃ (j : Nat) (pre : List (Plc (W * H))), j ≤ ph ∧ yv = .int .i64 ((Y : Int) + (j : Int)) ∧ vals pre = (plcs W X Y pw ph).take (j * pw) ∧ J pre wr ∧ Blk wr Bp #[.int .i64 (X : Int), .int .i64 (Y : Int), .int .i64 (pw : Int), .int .i64 (ph : Int)] 26 ∧ Blk wr Bl #[.int .i64 (W : Int), .int .i64 (H : Int), va] 48)
    (fun yv _ => Y + ph - (intOf yv).toNat)
  case atStart => exact ⟨0, [], by omega, by simp, by simp [vals], h0, (unhide HD0).1, (unhide HD0).2⟩
  case round =>
    obtain ⟨j, pre, hj, rfl, hv, hJs, hp, hl⟩ := hrel
    obtain ⟨p0, p1, p2, p3⟩ := hp.four
    have HP := hide (And.intro hp hl)
    clear hp hl
    by_cases hlt : j < ph
    · have hlt2 : (Y : Int) + (j : Int) < (Y : Int) + (ph : Int) := by omega
      gi_wp2
      gi_loopw [5] (fun xv wq => ∃ (i : Nat) (pre : List (Plc (W * H))), i ≤ pw ∧ xv = .int .i64 ((X : Int) + (i : Int)) ∧ vals pre = (plcs W X Y pw ph).take (j * pw + i) ∧ J pre wq ∧ Blk wq Bp #[.int .i64 (X : Int), .int .i64 (Y : Int), .int .i64 (pw : Int), .int .i64 (ph : Int)] 26 ∧ Blk wq Bl #[.int .i64 (W : Int), .int .i64 (H : Int), va] 48)
        (fun xv _ => X + pw - (intOf xv).toNat)
      case atStart => exact ⟨0, pre, by omega, by simp, by simpa using hv, hJs, (unhide HP).1, (unhide HP).2⟩
      case round =>
        clear p0 p1 p2 p3 hv hJs HP pre
        obtain ⟨i, pre, hi, rfl, hv, hJs, hp, hl⟩ := hrel
        obtain ⟨p0, p1, p2, p3⟩ := hp.four
        obtain ⟨l0, l1, l2⟩ := hl.three
        have HP := hide (And.intro hp hl)
        clear hp hl
        by_cases hlt3 : i < pw
        · have hlt4 : (X : Int) + (i : Int) < (X : Int) + (pw : Int) := by omega
          have hk : j * pw + i < pw * ph := by
            have h1 : (j + 1) * pw ≤ ph * pw := Nat.mul_le_mul_right _ (by omega)
            rw [Nat.succ_mul, Nat.mul_comm ph] at h1
            omega
          have hplen : pre.length < pw * ph := by
            have h1 := congrArg List.length hv
            rw [List.length_take, plcs_len] at h1
            simp [vals] at h1
            omega
          have hpq := pq_row (W := W) (X := X) (Y := Y) (w := pw) (j := j) (i := i) hlt3
          have hpl := pq_lt hx hy hk
          obtain ⟨x, hxv⟩ : ∃ x : Plc (W * H), x.1 = pq W X Y pw (j * pw + i) := ⟨⟨_, hpl⟩, rfl⟩
          have hv2 : vals (pre ++ [x]) = (plcs W X Y pw ph).take (j * pw + i + 1) := by rw [vals_snoc, hv, plcs_snoc hk, hxv]
          obtain ⟨fn, tmps, assign, body, hyy, hR⟩ := hY pre x wr hJs hplen
          have hR2 := hR.mono (R' := fun e W' => ∃ bl : Bool, e = .returned (.bool bl) ∧ ((bl = true ∧ J (pre ++ [x]) W' ∧ Kept Bp Bl wr W') ∨ (bl = false ∧ Jx (pre ++ [x]) W'))) (by
            rintro e W' (⟨rfl, h1, h2⟩ | ⟨rfl, h1⟩)
            · exact ⟨true, rfl, .inl ⟨rfl, h1, h2⟩⟩
            · exact ⟨false, rfl, .inr ⟨rfl, h1⟩⟩)
          clear hR
          have ex : ((x.1 : Nat) : Int) = ((Y : Int) + (j : Int)) * (W : Int) + ((X : Int) + (i : Int)) := by rw [hxv, hpq]; simp
          rw [ex] at hyy
          have hm : (Y + j) * W ≤ 64 * 64 := Nat.mul_le_mul (by omega) hW
          have em : ((Y : Int) + (j : Int)) * (W : Int) = (((Y + j) * W : Nat) : Int) := by simp
          have b1 : ((Y : Int) + (j : Int)) * (W : Int) ≤ 4096 := by omega
          have b0 : 0 ≤ ((Y : Int) + (j : Int)) * (W : Int) := by omega
          have HV := hide (And.intro hv2 (show vals (pre ++ [x]) <+: plcs W X Y pw ph by rw [hv2]; exact List.take_prefix _ _))
          clear hxv hv2 ex em hm hpq hpl hv
          gi_wp2_with (refine hR2.mono ?_; rintro e W3 ⟨bl, rfl, HJ3⟩; replace HJ3 := hide HJ3)
          · rename_i hbl
            have hbf : bl = false := by cases bl <;> simp_all
            rcases unhide HJ3 with ⟨hbt, _⟩ | ⟨_, hJx3⟩
            · rw [hbf] at hbt
              cases hbt
            · refine bodyPost_ret (results_none rfl _ _ _) rfl ?_
              exact ⟨⟨_, rfl⟩, .inr ⟨pre ++ [x], (unhide HV).2, hJx3⟩⟩
          · rename_i hbl
            have hbt : bl = true := by cases bl <;> simp_all
            rcases unhide HJ3 with ⟨_, hJ3, hk3⟩ | ⟨hbf, _⟩
            · refine ⟨⟨i + 1, pre ++ [x], by omega, by go_num, (unhide HV).1, hJ3, hk3.1.trans (unhide HP).1, hk3.2.trans (unhide HP).2⟩, ?_⟩
              simp [intOf]
              omega
            · rw [hbt] at hbf
              cases hbf
        · obtain rfl : i = pw := by omega
          gi_wp2
          go_roundw
          case rel => exact ⟨j + 1, pre, by omega, by go_num, by rw [Nat.succ_mul]; exact hv, hJs, (unhide HP).1, (unhide HP).2⟩
          case measure => simp [intOf]; omega
    · obtain rfl : j = ph := by omega
      gi_wp2
      go_end0
      refine ⟨⟨_, rfl⟩, .inl ⟨pre, ?_, hJs⟩⟩
      rw [hv, List.take_of_length_le]
      rw [plcs_len, Nat.mul_comm]
      exact Nat.le_refl _
end Go.Proofs.Ytpjapdifmfpcnaa
