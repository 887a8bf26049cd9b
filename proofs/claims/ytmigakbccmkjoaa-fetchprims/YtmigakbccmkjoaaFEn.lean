/-
  Primitives: the function over which one ranges, and its walk.
-/
import Derived.Test.YtmigakbccmkjoaaFEm
import Derived.RangeFuncNested
import Derived.RangeFuncBound
import Derived.RangeFuncCalls
import Derived.RangeFuncLeaves
import Derived.Shelf.Abstract
import Derived.Shelf.RegionOpen
import Derived.WalkKit
import Derived.OwnWalkIn
import Derived.TacticsInMore
import Derived.LoopNIn
import Derived.LoopIn
import Derived.Stop.RegionWithIn
import Derived.BigQuiet
import Derived.Deep.Cut
namespace Go.Proofs.Ytmigakbccmkjoaa
open Go.RowKit Go.Shelf
set_option linter.unusedVariables false
set_option linter.unusedSimpArgs false
attribute [local go_sem] Oper.semAt_some

/-- What a round must keep: the shape's block, and all that lay at first. -/
def KeptS (w : World) (Bs : Nat) (W W' : World) : Prop := W'.heap[Bs]? = W.heap[Bs]? ∧ ∀ i, i < w.heap.size → W'.heap[i]? = W.heap[i]?
abbrev Fk (m : Int) (n : Nat) : Type := { k : Nat // (k : Int) < shpN m n }
def valK {m : Int} {n : Nat} (l : List (Fk m n)) : List Nat := l.map (·.1)
def shC (m : Int) (n : Nat) (fv : Value) : Array Value := #[.int .i64 (shpC m n : Int), .int .i64 (shpN m n), fv]

set_option maxRecDepth 100000 in
set_option maxHeartbeats 4000000 in
theorem shapeIter (n0 : Nat) (hn0 : 1 ≤ n0) (m : Int) (n : Nat) (fv : Value) (Bs : Nat) (w0 w : World) (hpl : PlQ w0 fv m n) (ha : AgF w0 w) (hb : Blk w Bs (shC m n fv) 74) (hN : shpN m n ≤ 1000) :
    SeqStopsK Fence.wide n0 Try.prog 56 #[.pointer (some ⟨Bs, 0, none⟩)] (fun k : Fk m n => #[p3V (shpP m n k.1)]) (KeptS w0 Bs) (fun xs => valK xs = List.range (shpN m n).toNat) (fun _ => True) (shpN m n).toNat w := fun l J Jx W hW hJ hJx hY h0 => by
  have hb0 : Blk W Bs (shC m n fv) 74 := (hW.block Bs hb.lt).trans hb
  have ha0 : AgF w0 W := fun i hi => (hW.block i (by have := ha.size; omega)).trans (ha i hi)
  have HPL := hide hpl
  have HJ : Hid (∀ pre A B, J pre A → Ext A B → J pre B) := fun pre A B h hx => hJ pre A B none h ⟨hx.os, hx.tape, hx.output, hx.size, fun i hi _ => hx.block i hi⟩ (fun r e => by cases e)
  have D0 := hide (And.intro hb0 (And.intro ha0 h0))
  have HY := hide hY
  clear hb hb0 ha0 ha hW hJ hJx h0 hY hpl
  refine callsIn_of_wp Try.func56 rfl trivial ?_ rfl
  simp only [Try.ntmps56, List.size_toArray, List.length_cons, List.length_nil, Nat.reduceAdd, Nat.reduceSub, Array.replicate_succ, Array.replicate_zero, List.push_toArray, List.append_toArray, List.nil_append, List.cons_append]
  refine wpIn_wide.2 ?_
  go_wp2
  go_loopw [3] (fun iv wr => ∃ (k : Nat) (pre : List (Fk m n)), (k = 0 ∨ (k : Int) ≤ shpN m n) ∧ iv = .int .i64 (k : Int) ∧ valK pre = List.range k ∧ Blk wr Bs (shC m n fv) 74 ∧ AgF w0 wr ∧ J pre wr) (fun iv _ => (shpN m n).toNat - (intOf iv).toNat)
  case atStart => exact ⟨0, [], .inl rfl, rfl, rfl, unhide D0⟩
  case round =>
    clear D0
    obtain ⟨k, pre, hk, rfl, hv, hD⟩ := hrel
    have D := hide hD
    clear hD
    have c0 : wr.cell? ⟨Bs, 0, none⟩ = some (.int .i64 (shpC m n : Int)) := (unhide D).1.cell rfl
    have c1 : wr.cell? ⟨Bs, 1, none⟩ = some (.int .i64 (shpN m n)) := (unhide D).1.cell rfl
    have c2 : wr.cell? ⟨Bs, 2, none⟩ = some fv := (unhide D).1.cell rfl
    by_cases hlt : (k : Int) < shpN m n
    · rcases unhide HPL with ⟨_, h0⟩ | ⟨g, lb, hfv, eg, hg⟩
      · omega
      · subst hfv
        have HG := hide (hg wr k (unhide D).2.1 hlt)
        have hk1 : (k : Int) ≤ 1000 := by omega
        clear hg
        have hlen : pre.length < (shpN m n).toNat := by
          have := congrArg List.length hv
          simp [valK] at this
          omega
        have HV := hide hv
        clear hv
        go_upto_region 3 with fail
        refine (wpIn_wide (n := n0)).1 ?_
        gi_wp2_with fail
        refine ⟨trivial, (callsIn_wide.2 (unhide HG)).mono ?_⟩
        rintro e w5 ⟨rfl, hx5⟩
        have D5 := hide (And.intro ((unhide D).1.ext hx5) (And.intro ((unhide D).2.1.trans (AgF.ofExt hx5)) (unhide HJ _ _ _ (unhide D).2.2 hx5)))
        clear hx5
        obtain ⟨fn, tmps, assign, body, hy, hR⟩ := unhide HY pre ⟨k, hlt⟩ w5 (unhide D5).2.2 hlen
        have hR2 := hR.mono (R' := fun e W' => ∃ bl : Bool, e = .returned (.bool bl) ∧ ((bl = true ∧ J (pre ++ [⟨k, hlt⟩]) W' ∧ KeptS w0 Bs w5 W') ∨ (bl = false ∧ Jx (pre ++ [⟨k, hlt⟩]) W'))) (by
          rintro e W' (⟨rfl, h1, h2⟩ | ⟨rfl, h1⟩)
          · exact ⟨true, rfl, .inl ⟨rfl, h1, h2⟩⟩
          · exact ⟨false, rfl, .inr ⟨rfl, h1⟩⟩)
        clear hR
        gi_wp2_with (refine hR2.mono ?_; rintro e W3 ⟨bl, rfl, HJ3⟩; replace HJ3 := hide HJ3)
        rcases unhide HJ3 with ⟨rfl, hJ3, hk3⟩ | ⟨rfl, hJx3⟩
        · go_wp2
          go_roundw
          case rel =>
            refine ⟨k + 1, pre ++ [⟨k, hlt⟩], .inr (by omega), by go_num, ?_, hk3.1.trans (unhide D5).1, fun i hi => (hk3.2 i hi).trans ((unhide D5).2.1 i hi), hJ3⟩
            rw [List.range_succ, ← unhide HV]
            simp [valK]
          case measure => simp [intOf]; omega
        · go_wp2
          refine bodyPost_ret (results_none rfl _ _ _) rfl ?_
          exact ⟨⟨_, rfl⟩, .inr ⟨_, hJx3⟩⟩
    · have hkn : (shpN m n).toNat = k := by omega
      go_wp2
      go_end0
      exact ⟨⟨_, rfl⟩, .inl ⟨pre, hv, (unhide D).2.2⟩⟩
end Go.Proofs.Ytmigakbccmkjoaa
