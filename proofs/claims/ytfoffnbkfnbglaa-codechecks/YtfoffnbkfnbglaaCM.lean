/-
  Codes as bytes: numbersOf, the function over which one ranges, and its walk. What the dump lacks is left out.
-/
import Derived.Test.YtfoffnbkfnbglaaCL
import Derived.Test.YtfoffnbkfnbglaaCJ
import Derived.RangeFuncNested
import Derived.RangeFuncBound
import Derived.RangeFuncCalls
import Derived.RangeFuncLeaves
import Derived.RangeFuncBox
import Derived.Shelf.Abstract
import Derived.Shelf.RegionOpen
import Derived.WalkKit
import Derived.OwnWalkIn
import Derived.TacticsInMore
import Derived.LoopNIn
import Derived.LoopIn
import Derived.Stop.RegionWithIn
import Derived.Deep.Cut
import Derived.BigQuiet
namespace Go.Proofs.Ytfoffnbkfnbglaa
open Go.RowKit Go.Shelf
set_option linter.unusedVariables false
set_option linter.unusedSimpArgs false
attribute [local go_sem] Oper.semAt_some

def lo32 (x : Int) : Int := x % 4294967296
def hdL (C : Cod) (n : Nat) : List Int := [1128353872, C.stage, C.regs, C.attr, C.unif, C.vary, (n : Int)]
def inL (I : Nat → Int) : List Int := [I 0, I 1, I 2, I 3, I 4, I 5, I 6, I 7, I 8, I 9, I 10, I 11, I 12, I 13, I 14, I 15]
/-- The numbers of a code, its first k instructions. -/
def numK (C : Cod) (k : Nat) : List Int := (hdL C C.ins.length ++ (C.ins.take k).flatMap inL).map lo32
def numL (C : Cod) : List Int := numK C C.ins.length
theorem numK_len (C : Cod) (k : Nat) (hk : k ≤ C.ins.length) : (numK C k).length = 7 + 16 * k := by
  have h : ∀ L : List (Nat → Int), (L.flatMap inL).length = 16 * L.length := fun L => by
    induction L with
    | nil => rfl
    | cons x r ih => rw [List.flatMap_cons, List.length_append, ih]; simp [inL]; omega
  unfold numK
  rw [List.length_map, List.length_append, h, List.length_take]
  simp [hdL]
  omega
theorem numK_succ (C : Cod) (k : Nat) (hk : k < C.ins.length) : numK C (k + 1) = numK C k ++ (inL C.ins[k]).map lo32 := by
  unfold numK
  rw [List.take_succ_eq_append_getElem hk, List.flatMap_append, ← List.append_assoc, List.map_append]
  simp
theorem numK_all (C : Cod) (k : Nat) : numK C k <+: numL C := by
  unfold numL numK
  rw [List.take_length, List.map_append, List.map_append]
  refine List.prefix_append_right_inj _ |>.2 ?_
  conv => rhs; rw [← List.take_append_drop k C.ins, List.flatMap_append, List.map_append]
  exact List.prefix_append _ _

abbrev Nu : Type := { x : Int // 0 ≤ x ∧ x < 4294967296 }
def valN (l : List Nu) : List Int := l.map (·.1)
theorem valN_snoc (l : List Nu) (x : Nu) : valN (l ++ [x]) = valN l ++ [x.1] := by simp [valN]
/-- All that lay in w lies as it lay. -/
def Agr (w W : World) : Prop := ∀ i, i < w.heap.size → W.heap[i]? = w.heap[i]?
theorem Agr.size {w W : World} (h : Agr w W) : w.heap.size ≤ W.heap.size := by
  by_cases h0 : w.heap.size = 0
  · omega
  · have h1 := h (w.heap.size - 1) (by omega)
    rw [Array.getElem?_eq_getElem (show w.heap.size - 1 < w.heap.size by omega)] at h1
    have := (Array.getElem?_eq_some_iff.1 h1).1
    omega
theorem Agr.ext {w W W' : World} (h : Agr w W) (hx : Ext W W') : Agr w W' := fun i hi => (hx.block i (by have := h.size; omega)).trans (h i hi)
theorem IR.agr {w W : World} {v : Value} {L : List (Nat → Int)} (h : IR w v L) (ha : Agr w W) : IR W v L := by
  obtain ⟨ao, cap, e, h1, h2, h3, h4⟩ := h
  refine ⟨ao, cap, e, h1, h2, h3, fun i hi => ?_⟩
  obtain ⟨b, off, e2, c⟩ := h4 i hi
  refine ⟨b, off, e2, fun j u hu => ?_⟩
  have := c j u hu
  exact (World.cell?_of_block (ha b (World.block_lt_of_cell? w _ this))).trans this
/-- What a round must keep: the code's block, and all that lay at first. -/
def KeptN (w : World) (Bc : Nat) (W W' : World) : Prop := W'.heap[Bc]? = W.heap[Bc]? ∧ ∀ i, i < w.heap.size → W'.heap[i]? = W.heap[i]?

set_option maxHeartbeats 1000000 in
theorem numbersOf_any (C : Cod) (v : Value) (w : World) :
    Calls Try.prog 30 #[.agg #[.int .i64 (C).stage, v, .int .i64 (C).regs, .int .i64 (C).attr, .int .i64 (C).unif, .int .i64 (C).vary]] w fun e w' => e = .returned (.func (.func 46) #[] #[.pointer (some ⟨w.heap.size, 0, none⟩)]) ∧ w' = w.alloc (.cells #[.int .i64 (C).stage, v, .int .i64 (C).regs, .int .i64 (C).attr, .int .i64 (C).unif, .int .i64 (C).vary] 26) := by
  go_enter Try.func30, Try.ntmps30
  go_wp2
  go_ret
  exact ⟨rfl, rfl⟩

theorem ix7 (C : Cod) (n k : Nat) (hk : k < 7) (w : World) : (Instr.index 52 (.agg (hdA C n)) (.int .i64 (k : Int))).run Try.prog w = .ok (.int .i64 ((hdL C n)[k]'(by simp [hdL]; omega))) w := by
  rcases (by omega : k = 0 ∨ k = 1 ∨ k = 2 ∨ k = 3 ∨ k = 4 ∨ k = 5 ∨ k = 6) with rfl | rfl | rfl | rfl | rfl | rfl | rfl <;> kernel_rfl
theorem ix16 (I : Nat → Int) (k : Nat) (hk : k < 16) (w : World) : (Instr.index 88 (.agg (nuA I)) (.int .i64 (k : Int))).run Try.prog w = .ok (.int .i64 ((inL I)[k]'(by simp [inL]; omega))) w := by
  rcases (by omega : k = 0 ∨ k = 1 ∨ k = 2 ∨ k = 3 ∨ k = 4 ∨ k = 5 ∨ k = 6 ∨ k = 7 ∨ k = 8 ∨ k = 9 ∨ k = 10 ∨ k = 11 ∨ k = 12 ∨ k = 13 ∨ k = 14 ∨ k = 15) with rfl | rfl | rfl | rfl | rfl | rfl | rfl | rfl | rfl | rfl | rfl | rfl | rfl | rfl | rfl | rfl <;> kernel_rfl
theorem u32_in (x : Int) : 0 ≤ lo32 x ∧ lo32 x < 4294967296 := by unfold lo32; omega

set_option maxRecDepth 100000 in
set_option maxHeartbeats 4000000 in
theorem numIter (n : Nat) (hn : 1 ≤ n) (C : Cod) (v : Value) (Bc : Nat) (w0 w : World) (hir : IR w0 v C.ins) (hok : ∀ I ∈ C.ins, OkI I) (ha : Agr w0 w) (hb : Blk w Bc #[.int .i64 (C).stage, v, .int .i64 (C).regs, .int .i64 (C).attr, .int .i64 (C).unif, .int .i64 (C).vary] 26) :
    SeqStopsK Fence.wide n Try.prog 46 #[.pointer (some ⟨Bc, 0, none⟩)] (fun x : Nu => #[Value.int .u32 x.1]) (KeptN w0 Bc) (fun xs => valN xs = numL C) (fun _ => True) (7 + 16 * C.ins.length) w := fun l J Jx W hW hJ hJx hY h0 => by
  have hb0 : Blk W Bc #[.int .i64 (C).stage, v, .int .i64 (C).regs, .int .i64 (C).attr, .int .i64 (C).unif, .int .i64 (C).vary] 26 := (hW.block Bc hb.lt).trans hb
  have ha0 : Agr w0 W := fun i hi => (hW.block i (by have := ha.size; omega)).trans (ha i hi)
  have HI := hide hir
  obtain ⟨ao, cap, rfl, hn0, hlc, hcm, hat⟩ := hir
  have HOK := hide hok
  have HJ : Hid (∀ pre A B, J pre A → Ext A B → J pre B) := fun pre A B h hx => hJ pre A B none h ⟨hx.os, hx.tape, hx.output, hx.size, fun i hi _ => hx.block i hi⟩ (fun r e => by cases e)
  have D0 := hide (And.intro hb0 (And.intro ha0 h0))
  have HY := hide hY
  clear hb hb0 ha0 ha hW hJ hJx h0 hY hok hn0 hat
  unfold maxLen at hcm
  refine callsIn_of_wp Try.func46 rfl trivial ?_ rfl
  simp only [Try.ntmps46, List.size_toArray, List.length_cons, List.length_nil, Nat.reduceAdd, Nat.reduceSub, Array.replicate_succ, Array.replicate_zero, List.push_toArray, List.append_toArray, List.nil_append, List.cons_append]
  refine wpIn_wide.2 ?_
  go_wp2_with (first
    | refine wpList_load_row rfl 26 (.tmp 1) rfl Bc rfl 26 #[.int .i64 (C).stage, .slice ao C.ins.length cap, .int .i64 (C).regs, .int .i64 (C).attr, .int .i64 (C).unif, .int .i64 (C).vary] (0, 0) _ (unhide D0).1 Try.underlying26 rfl size6 ?_
    | (go_at_call 9999))
  refine (headOf_any C ao C.ins.length cap W).mono ?_
  rintro e W1 ⟨rfl, hx1⟩
  have D1 := hide (show Blk W1 Bc #[.int .i64 (C).stage, .slice ao C.ins.length cap, .int .i64 (C).regs, .int .i64 (C).attr, .int .i64 (C).unif, .int .i64 (C).vary] 26 ∧ Agr w0 W1 ∧ J [] W1 from ⟨(unhide D0).1.ext hx1, (unhide D0).2.1.ext hx1, unhide HJ _ _ _ (unhide D0).2.2 hx1⟩)
  clear hx1 D0
  go_wp2
  go_loopw [11] (fun iv wr => ∃ (k : Nat) (pre : List Nu), k ≤ 7 ∧ iv = .int .i64 (k : Int) ∧ valN pre = ((hdL C C.ins.length).take k).map lo32 ∧ Blk wr Bc #[.int .i64 (C).stage, .slice ao C.ins.length cap, .int .i64 (C).regs, .int .i64 (C).attr, .int .i64 (C).unif, .int .i64 (C).vary] 26 ∧ Agr w0 wr ∧ J pre wr) (fun iv _ => 7 - (intOf iv).toNat)
  case atStart => exact ⟨0, [], by omega, rfl, rfl, unhide D1⟩
  case round =>
    obtain ⟨k, pre, hk, rfl, hv, hD⟩ := hrel
    have D := hide hD
    have HV := hide hv
    clear hD hv D1
    by_cases hlt : k < 7
    · have hk7 : (k : Int) < 7 := by omega
      have hix := ix7 C C.ins.length k hlt
      have hlen : pre.length < 7 + 16 * C.ins.length := by
        have := congrArg List.length (unhide HV)
        simp [valN, hdL] at this
        omega
      have HT : Hid ((hdL C C.ins.length).take (k + 1) = (hdL C C.ins.length).take k ++ [(hdL C C.ins.length)[k]'(by simp [hdL]; omega)]) := List.take_succ_eq_append_getElem (by simp [hdL]; omega)
      generalize (hdL C C.ins.length)[k]'(by simp [hdL]; omega) = x at *
      obtain ⟨y, hy0⟩ : ∃ y : Nu, y.1 = x % 4294967296 := ⟨⟨lo32 x, u32_in x⟩, rfl⟩
      obtain ⟨fn, tmps, assign, body, hy, hR⟩ := unhide HY pre y wr (unhide D).2.2 hlen
      have hR2 := hR.mono (R' := fun e W' => ∃ bl : Bool, e = .returned (.bool bl) ∧ ((bl = true ∧ J (pre ++ [y]) W' ∧ KeptN w0 Bc wr W') ∨ (bl = false ∧ Jx (pre ++ [y]) W'))) (by
        rintro e W' (⟨rfl, h1, h2⟩ | ⟨rfl, h1⟩)
        · exact ⟨true, rfl, .inl ⟨rfl, h1, h2⟩⟩
        · exact ⟨false, rfl, .inr ⟨rfl, h1⟩⟩)
      have HV2 : Hid (valN (pre ++ [y]) = ((hdL C C.ins.length).take (k + 1)).map lo32) := by
        rw [Hid, valN_snoc, unhide HT, List.map_append, unhide HV, hy0]
        rfl
      rw [hy0] at hy
      clear hR hy0
      go_upto_region 3 with fail
      refine (wpIn_wide (n := n)).1 ?_
      gi_wp2_with (refine hR2.mono ?_; rintro e W3 ⟨bl, rfl, HJ3⟩; replace HJ3 := hide HJ3)
      rcases unhide HJ3 with ⟨rfl, hJ3, hk3⟩ | ⟨rfl, hJx3⟩
      · go_wp2
        go_roundw
        case rel => exact ⟨k + 1, pre ++ [y], by omega, by go_num, unhide HV2, hk3.1.trans (unhide D).1, fun i hi => (hk3.2 i hi).trans ((unhide D).2.1 i hi), hJ3⟩
        case measure => simp [intOf]; omega
      · go_wp2
        refine bodyPost_ret (results_none rfl _ _ _) rfl ?_
        exact ⟨⟨_, rfl⟩, .inr ⟨pre ++ [y], hJx3⟩⟩
    · obtain rfl : k = 7 := by omega
      rw [show ((7 : Nat) : Int) = (7 : Int) from rfl]
      have HV0 : Hid (valN pre = numK C 0) := by
        rw [Hid, unhide HV]
        simp [numK, hdL]
      clear HV
      obtain ⟨_, c1, _, _, _, _⟩ := cellC (unhide D).1
      have D2 := hide (And.intro (unhide D).1 (And.intro (unhide D).2.1 (unhide D).2.2))
      go_wp2
      clear c1
      go_loopw [23] (fun iv wr => ∃ (k : Nat) (pre : List Nu), k ≤ C.ins.length ∧ iv = .int .i64 (k : Int) ∧ valN pre = numK C k ∧ Blk wr Bc #[.int .i64 (C).stage, .slice ao C.ins.length cap, .int .i64 (C).regs, .int .i64 (C).attr, .int .i64 (C).unif, .int .i64 (C).vary] 26 ∧ Agr w0 wr ∧ J pre wr) (fun iv _ => C.ins.length - (intOf iv).toNat)
      case atStart => exact ⟨0, pre, by omega, rfl, unhide HV0, unhide D2⟩
      case round =>
        clear D D2 HV0
        obtain ⟨k, pre, hk, rfl, hv, hD⟩ := hrel
        have D := hide hD
        have HV := hide hv
        clear hD hv
        by_cases hlt : k < C.ins.length
        · have hkn : (k : Int) < (C.ins.length : Int) := by omega
          obtain ⟨_, _, e9, _, _, _, hat⟩ := (unhide HI).agr (unhide D).2.1
          have e8 := (Value.slice.inj e9).1
          subst e8
          obtain ⟨b, off, rfl, hrg⟩ := hat k hlt
          have HRG := hide hrg
          have HSU := hide (numK_succ C k hlt)
          have HOI := hide (unhide HOK C.ins[k] (List.getElem_mem hlt))
          clear hrg hat e9
          generalize C.ins[k] = I at *
          go_wp2_with (first
            | (refine wpList_load_mid rfl 39 (.tmp 25) rfl b (off + k * 16) rfl (insA I).toList _ (unhide HRG) Try.underlying39 rfl size16 ?_; rw [Array.toArray_toList])
            | refine wpList_storeLast rfl 39 (.tmp 6) (.tmp 26) rfl _ wr.heap.size rfl rfl (insA I) rfl 16 size16 rfl rfl (insA_one I) ?_
            | refine wpList_load_row rfl 39 (.tmp 6) rfl wr.heap.size rfl 39 (insA I) (0, 0) _ (heap_alloc_last wr _) Try.underlying39 rfl size16 ?_
            | (go_at_call 9999))
          refine (instrOf_any I _ (unhide HOI)).mono ?_
          rintro e W4 ⟨rfl, hx4⟩
          have hx4' : Ext wr W4 := ((Ext.refl wr).alloc _).trans hx4
          have D4 := hide (show Blk W4 Bc #[.int .i64 (C).stage, .slice (some ⟨b, off, none⟩) C.ins.length cap, .int .i64 (C).regs, .int .i64 (C).attr, .int .i64 (C).unif, .int .i64 (C).vary] 26 ∧ Agr w0 W4 ∧ J pre W4 from ⟨(unhide D).1.ext hx4', (unhide D).2.1.ext hx4', unhide HJ _ _ _ (unhide D).2.2 hx4'⟩)
          clear hx4 hx4' D HRG
          go_wp2
          go_loopw [29] (fun iv wr => ∃ (j : Nat) (pre : List Nu), j ≤ 16 ∧ iv = .int .i64 (j : Int) ∧ valN pre = numK C k ++ ((inL I).take j).map lo32 ∧ Blk wr Bc #[.int .i64 (C).stage, .slice (some ⟨b, off, none⟩) C.ins.length cap, .int .i64 (C).regs, .int .i64 (C).attr, .int .i64 (C).unif, .int .i64 (C).vary] 26 ∧ Agr w0 wr ∧ J pre wr) (fun iv _ => 16 - (intOf iv).toNat)
          case atStart => exact ⟨0, pre, by omega, rfl, by simpa using unhide HV, unhide D4⟩
          case round =>
            clear D4 HV
            obtain ⟨j, pre, hj, rfl, hv, hD⟩ := hrel
            have D := hide hD
            have HV := hide hv
            clear hD hv
            by_cases hjt : j < 16
            · have hj16 : (j : Int) < 16 := by omega
              have hix := ix16 I j hjt
              have hlen : pre.length < 7 + 16 * C.ins.length := by
                have h1 := congrArg List.length (unhide HV)
                rw [List.length_append, numK_len C k (by omega)] at h1
                simp [valN, inL] at h1
                omega
              have HT : Hid ((inL I).take (j + 1) = (inL I).take j ++ [(inL I)[j]'(by simp [inL]; omega)]) := List.take_succ_eq_append_getElem (by simp [inL]; omega)
              generalize (inL I)[j]'(by simp [inL]; omega) = x at *
              obtain ⟨y, hy0⟩ : ∃ y : Nu, y.1 = x % 4294967296 := ⟨⟨lo32 x, u32_in x⟩, rfl⟩
              obtain ⟨fn, tmps, assign, body, hy, hR⟩ := unhide HY pre y wr (unhide D).2.2 hlen
              have hR2 := hR.mono (R' := fun e W' => ∃ bl : Bool, e = .returned (.bool bl) ∧ ((bl = true ∧ J (pre ++ [y]) W' ∧ KeptN w0 Bc wr W') ∨ (bl = false ∧ Jx (pre ++ [y]) W'))) (by
                rintro e W' (⟨rfl, h1, h2⟩ | ⟨rfl, h1⟩)
                · exact ⟨true, rfl, .inl ⟨rfl, h1, h2⟩⟩
                · exact ⟨false, rfl, .inr ⟨rfl, h1⟩⟩)
              have HV2 : Hid (valN (pre ++ [y]) = numK C k ++ ((inL I).take (j + 1)).map lo32) := by
                rw [Hid, valN_snoc, unhide HT, List.map_append, unhide HV, hy0, List.append_assoc]
                rfl
              rw [hy0] at hy
              clear hR hy0
              go_upto_region 11 with fail
              refine (wpIn_wide (n := n)).1 ?_
              gi_wp2_with (refine hR2.mono ?_; rintro e W3 ⟨bl, rfl, HJ3⟩; replace HJ3 := hide HJ3)
              rcases unhide HJ3 with ⟨rfl, hJ3, hk3⟩ | ⟨rfl, hJx3⟩
              · go_wp2
                go_roundw
                case rel => exact ⟨j + 1, pre ++ [y], by omega, by go_num, unhide HV2, hk3.1.trans (unhide D).1, fun i hi => (hk3.2 i hi).trans ((unhide D).2.1 i hi), hJ3⟩
                case measure => simp [intOf]; omega
              · go_wp2
                refine bodyPost_ret (results_none rfl _ _ _) rfl ?_
                exact ⟨⟨_, rfl⟩, .inr ⟨pre ++ [y], hJx3⟩⟩
            · obtain rfl : j = 16 := by omega
              have HV3 : Hid (valN pre = numK C (k + 1)) := by
                rw [Hid, unhide HV, unhide HSU]
                simp [inL]
              go_wp2
              go_roundw
              case rel => exact ⟨k + 1, pre, by omega, by go_num, unhide HV3, unhide D⟩
              case measure => simp [intOf]; omega
        · obtain rfl : k = C.ins.length := by omega
          go_wp2
          go_end0
          exact ⟨⟨_, rfl⟩, .inl ⟨pre, unhide HV, (unhide D).2.2⟩⟩
end Go.Proofs.Ytfoffnbkfnbglaa
