/-
  Codes as bytes: instrsIn, the function over which one ranges, which moves a Reader on; its walk. What the dump lacks is left out.
-/
import Derived.Test.YtfoffnbkfnbglaaCQ
import Derived.Test.YtfoffnbkfnbglaaCR
import Derived.Shelf.Abstract
import Derived.Shelf.RegionOpen
import Derived.WalkKit
import Derived.OwnWalkIn
import Derived.TacticsInMore
import Derived.LoopNIn
import Derived.LoopIn
import Derived.Stop.RegionWithIn
import Derived.Deep.Cut
import Derived.BigQuiet
namespace Go.Proofs.Ytfoffnbkfnbglaa
open Go.RowKit Go.Shelf
set_option linter.unusedVariables false
set_option linter.unusedSimpArgs false
attribute [local go_sem] Oper.semAt_some

/-- Where a Reader stands behind j instructions, and its error. -/
def insS (bs : List Int) (p : Nat) (err : Int) : Nat → Nat × Int
  | 0 => (p, err)
  | j + 1 => rdS bs (insS bs p err j).1 (insS bs p err j).2 16
/-- The instruction j. -/
def insX (bs : List Int) (p : Nat) (err : Int) (j : Nat) : Nat → Int := ofV (rdV bs (insS bs p err j).1 (insS bs p err j).2)
def goes (bs : List Int) (p : Nat) (err : Int) (j : Nat) : Prop := (insS bs p err j).1 < bs.length ∧ (insS bs p err j).2 = 0
def insL (bs : List Int) (p : Nat) (err : Int) (k : Nat) : List (Nat → Int) := (List.range k).map (insX bs p err)
theorem insL_succ (bs : List Int) (p : Nat) (err : Int) (k : Nat) : insL bs p err (k + 1) = insL bs p err k ++ [insX bs p err k] := by simp [insL, List.range_succ]
/-- How far a Reader is from its end. -/
def rdM (bs : List Int) (rb : Nat) (w : World) : Nat :=
  match w.cell? ⟨rb, 0, none⟩, w.cell? ⟨rb, 2, none⟩ with
  | some (.int _ p), some (.int _ e) => if e = 0 then bs.length - p.toNat + 1 else 0
  | _, _ => 0
theorem rdM_of {w : World} {rb : Nat} {sv : Value} {bs : List Int} {p : Nat} {err : Int} (h : Rd w rb sv bs p err) : rdM bs rb w = if err = 0 then bs.length - p + 1 else 0 := by
  unfold rdM
  rw [h.c0, h.c2]
  simp

set_option maxHeartbeats 1000000 in
theorem instrsIn_any (rb : Nat) (w : World) :
    Calls Try.prog 20 #[.pointer (some ⟨rb, 0, none⟩)] w fun e w' => e = .returned (.func (.func 39) #[] #[.pointer (some ⟨w.heap.size, 0, none⟩)]) ∧ w' = w.alloc (.cells #[.pointer (some ⟨rb, 0, none⟩)] 50) := by
  go_enter Try.func20, Try.ntmps20
  go_wp2
  go_ret
  exact ⟨rfl, rfl⟩

section
variable (bs : List Int) (sv : Value) (rb Bv : Nat) (p : Nat) (err : Int) (M : List (Nat → Int) → World → Prop)
def InI (pre : List (Nat → Int)) (W : World) : Prop := pre = insL bs p err pre.length ∧ (∀ j, j < pre.length → goes bs p err j) ∧ Rd W rb sv bs (insS bs p err pre.length).1 (insS bs p err pre.length).2 ∧ Blk W Bv #[.pointer (some ⟨rb, 0, none⟩)] 50 ∧ M pre W
def InY (pre : List (Nat → Int)) (x : Nat → Int) (W : World) : Prop := pre = insL bs p err pre.length ∧ x = insX bs p err pre.length ∧ (∀ j, j < pre.length + 1 → goes bs p err j) ∧ Rd W rb sv bs (insS bs p err (pre.length + 1)).1 (insS bs p err (pre.length + 1)).2 ∧ Blk W Bv #[.pointer (some ⟨rb, 0, none⟩)] 50 ∧ M pre W
def InE (pre : List (Nat → Int)) (W : World) : Prop := InI bs sv rb Bv p err M pre W ∧ ¬ goes bs p err pre.length
end

theorem rdS_less (bs : List Int) (p : Nat) (k : Nat) (hp : p ≤ bs.length) (hk : 0 < k) : (rdS bs p 0 k).2 ≠ 0 ∨ ((rdS bs p 0 k).2 = 0 ∧ p < (rdS bs p 0 k).1 ∧ (rdS bs p 0 k).1 ≤ bs.length) := by
  by_cases h : p + 4 * k ≤ bs.length
  · rw [rd_full bs p k h]
    exact .inr ⟨rfl, by simp; omega, by simp; omega⟩
  · exact .inl (rd_short bs p k hp (by omega))

set_option maxRecDepth 100000 in
set_option maxHeartbeats 4000000 in
theorem insIter (n : Nat) (hn : 1 ≤ n) (bs : List Int) (sv : Value) (rb Bv : Nat) (p : Nat) (err : Int) (M : List (Nat → Int) → World → Prop) (hM : ∀ pre A B, M pre A → A.grownBy B (some rb) → M pre B) (hne : Bv ≠ rb)
    (l D : Nat) (ol od : Obj) (hlr : l ≠ rb) (hDr : D ≠ rb) (W : World) (hl : W.heap[l]? = some ol) (hd : W.heap[D]? = some od) (hI : InI bs sv rb Bv p err M [] W)
    (hY : ∀ pre x W1, InY bs sv rb Bv p err M pre x W1 → W1.heap[l]? = some ol → W1.heap[D]? = some od → YieldAt Fence.wide (n - 1) Try.prog l #[.agg (insA x)] W1 fun e W' => e = .returned (.bool true) ∧ InI bs sv rb Bv p err M (pre ++ [x]) W' ∧ W'.heap[l]? = some ol ∧ W'.heap[D]? = some od) :
    CallsIn Fence.wide n Try.prog 39 (#[.func (.yield l) #[] #[]] ++ #[.pointer (some ⟨Bv, 0, none⟩)]) W fun e W' => (∃ v, e = .returned v) ∧ ∃ xs, InE bs sv rb Bv p err M xs W' ∧ W'.heap[l]? = some ol ∧ W'.heap[D]? = some od := by
  have D0 := hide (And.intro hI (And.intro hl hd))
  have HY := hide hY
  have HM := hide hM
  clear hI hl hd hY hM
  refine callsIn_of_wp Try.func39 rfl trivial ?_ rfl
  simp only [Try.ntmps39, List.size_toArray, List.length_cons, List.length_nil, Nat.reduceAdd, Nat.reduceSub, Array.replicate_succ, Array.replicate_zero, List.push_toArray, List.append_toArray, List.nil_append, List.cons_append]
  refine wpIn_wide.2 ?_
  go_wp2
  go_loopw [] (fun wr => ∃ pre, InI bs sv rb Bv p err M pre wr ∧ wr.heap[l]? = some ol ∧ wr.heap[D]? = some od) (fun wr => rdM bs rb wr)
  case atStart => exact ⟨[], unhide D0⟩
  case round =>
    clear D0
    obtain ⟨pre, ⟨hpre, hgo, hrd, hbv, hm⟩, hl, hd⟩ := hrel
    have D1 := hide (And.intro hpre (And.intro hgo (And.intro hrd (And.intro hbv (And.intro hm (And.intro hl hd))))))
    have c0 := hbv.cell (i := 0) rfl
    have HL := hide (left_any hrd)
    have HE := hide (fun m => err_any (hrd.drewN m))
    have HN := hide (fun m => instrIn_any (hrd.drewN m))
    have hpl := hrd.le
    have hbl := hrd.len
    have HSS : Hid (insS bs p err (pre.length + 1) = rdS bs (insS bs p err pre.length).1 (insS bs p err pre.length).2 16) := rfl
    have HX : Hid (ofV (rdV bs (insS bs p err pre.length).1 (insS bs p err pre.length).2) = insX bs p err pre.length) := rfl
    have HG : Hid (goes bs p err pre.length ↔ (insS bs p err pre.length).1 < bs.length ∧ (insS bs p err pre.length).2 = 0) := Iff.rfl
    have HMS := hide (rdM_of hrd)
    clear hpre hgo hbv hm hl hd hrd
    generalize hst : insS bs p err pre.length = st at *
    obtain ⟨q, er⟩ := st
    simp only at HL HE HN hpl HSS HX HG HMS
    by_cases hq : q < bs.length
    case neg =>
      have hq' : ¬ (0 : Int) < (bs.length : Int) - (q : Int) := by omega
      go_wp2_with (first
        | (go_at_call 40; refine (unhide HL).mono ?_; rintro e w1 ⟨rfl, m, rfl⟩))
      go_end0
      refine ⟨⟨_, rfl⟩, pre, ⟨⟨(unhide D1).1, (unhide D1).2.1, by rw [hst]; exact (unhide D1).2.2.1.drewN _, (unhide D1).2.2.2.1.drewN _, unhide HM _ _ _ (unhide D1).2.2.2.2.1 ⟨rfl, rfl, rfl, Nat.le_refl _, fun _ _ _ => rfl⟩⟩, fun hg => hq ((unhide HG).1 hg).1⟩, (unhide D1).2.2.2.2.2.1, (unhide D1).2.2.2.2.2.2⟩
    case pos =>
    have hq' : (0 : Int) < (bs.length : Int) - (q : Int) := by omega
    by_cases he : er = 0
    case neg =>
      have he' : (er == 0) = false := beq_eq_false_iff_ne.2 he
      go_wp2_with (first
        | (go_at_call 40; refine (unhide HL).mono ?_; rintro e w1 ⟨rfl, m, rfl⟩)
        | (go_at_call 21; refine (unhide HE _).mono ?_; rintro e w1 ⟨rfl, rfl⟩))
      go_end0
      refine ⟨⟨_, rfl⟩, pre, ⟨⟨(unhide D1).1, (unhide D1).2.1, by rw [hst]; exact (unhide D1).2.2.1.drewN _, (unhide D1).2.2.2.1.drewN _, unhide HM _ _ _ (unhide D1).2.2.2.2.1 ⟨rfl, rfl, rfl, Nat.le_refl _, fun _ _ _ => rfl⟩⟩, fun hg => he ((unhide HG).1 hg).2⟩, (unhide D1).2.2.2.2.2.1, (unhide D1).2.2.2.2.2.2⟩
    case pos =>
    subst he
    have HGO := hide ((unhide HG).2 ⟨hq, rfl⟩)
    have HLS := hide (rdS_less bs q 16 hpl (by omega))
    go_upto_region 1 with (first
      | (go_at_call 40; refine (unhide HL).mono ?_; rintro e w1 ⟨rfl, m, rfl⟩)
      | (go_at_call 21; refine (unhide HE _).mono ?_; rintro e w1 ⟨rfl, rfl⟩))
    refine (wpIn_wide (n := n)).1 ?_
    gi_wp2_with (fail)
    refine ⟨trivial, (callsIn_wide.2 (unhide HN _)).mono ?_⟩
    rintro e w2 ⟨rfl, hrd2, hbt2⟩
    replace hbt2 : wr.grownBy w2 (some rb) := ⟨hbt2.os, hbt2.tape, hbt2.output, hbt2.size, hbt2.block⟩
    rw [unhide HX]
    have hlr2 : w2.heap[l]? = some ol := (hbt2.block l (Array.getElem?_eq_some_iff.1 (unhide D1).2.2.2.2.2.1).1 (by simpa using hlr)).trans (unhide D1).2.2.2.2.2.1
    have hdr2 : w2.heap[D]? = some od := (hbt2.block D (Array.getElem?_eq_some_iff.1 (unhide D1).2.2.2.2.2.2).1 (by simpa using hDr)).trans (unhide D1).2.2.2.2.2.2
    have hyy : InY bs sv rb Bv p err M pre (insX bs p err pre.length) w2 := ⟨(unhide D1).1, rfl, fun j hj => by
        rcases (by omega : j < pre.length ∨ j = pre.length) with h | h
        · exact (unhide D1).2.1 j h
        · rw [h]; exact unhide HGO, by rw [unhide HSS]; exact hrd2, (unhide D1).2.2.2.1.grown hbt2 hne, unhide HM _ _ _ (unhide D1).2.2.2.2.1 hbt2⟩
    obtain ⟨fn, tmps, assign, body, hy, hR⟩ := unhide HY pre _ w2 hyy hlr2 hdr2
    have HR := hide hR
    clear hR hyy hlr2 hdr2 hrd2 hbt2
    have HLEN : Hid ((pre ++ [insX bs p err pre.length]).length = pre.length + 1) := by rw [Hid, List.length_append]; rfl
    generalize insX bs p err pre.length = x at *
    have hR2 := (unhide HR)
    gi_wp2_with (refine hR2.mono ?_; rintro e W3 ⟨rfl, hI3, hl3, hd3⟩; have H3 := hide (And.intro hI3 (And.intro hl3 hd3)); clear hI3 hl3 hd3)
    go_wp2
    go_roundw
    case rel => exact ⟨pre ++ [x], (unhide H3).1, (unhide H3).2.1, (unhide H3).2.2⟩
    case measure =>
      have h9 := (unhide H3).1.2.2.1
      rw [unhide HLEN, unhide HSS] at h9
      rw [rdM_of h9, unhide HMS]
      rcases unhide HLS with h | ⟨h, h', h''⟩
      · rw [if_neg h, if_pos trivial]; omega
      · rw [if_pos h, if_pos trivial]; omega
end Go.Proofs.Ytfoffnbkfnbglaa
