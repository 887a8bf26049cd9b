/- Several texts in one. -/
import Derived.Test.YtglfhmlcmffoaaaGreatCD
import Derived.Laws.CopyOwn
import Derived.Deep.MidRow
import Derived.Deep.WholeRow
import Derived.Great.BuildSlice
import Derived.Test.YtglfhmlcmffoaaaGreatVMDJ
import Derived.Test.YtglfhmlcmffoaaaGreatPGJ
import Derived.Deep.Cut
/-
  Codes: whole instructions moved in memory, rows of instructions that are read. What the dump lacks is left out.
-/
namespace Go.Proofs.YtglfhmlcmffoaaaGreat
open Go.RowKit
set_option linter.unusedVariables false
set_option linter.unusedSimpArgs false

theorem Blk.rowC {w : World} {b : Nat} {cs cs' : Array Value} {t : TypeId} (h : Blk w b cs t) : Blk (w.setRow b cs') b cs' t := setRow_heap w b cs cs' t (0, 0) h
theorem Blk.rowO {w : World} {b r : Nat} {cs cs' : Array Value} {t : TypeId} (h : Blk w b cs t) (hne : b ≠ r) : Blk (w.setRow r cs') b cs t := (setRow_other w r b cs' hne).trans h
theorem extRow {w w1 : World} {b : Nat} {cs : Array Value} (h : Ext w w1) (hb : w.heap.size ≤ b) : Ext w (w1.setRow b cs) := below_setRow h hb cs
theorem extSet {w w1 : World} {b i : Nat} {v : Value} (h : Ext w w1) (hb : w.heap.size ≤ b) : Ext w (w1.setCell ⟨b, i, none⟩ v) := h.grown (grownBy_set w1 b i v) h.size (fun k e => by cases e; exact hb)
theorem sizeI16 : (Tryz.prog.info? 59).map (·.size) = some 16 := by kernel_rfl
theorem size4 : (Tryz.prog.info? 57).map (·.size) = some 4 := by kernel_rfl
theorem sizeV : (Tryz.prog.info? 28).map (·.size) = some 4 := by kernel_rfl
theorem size6 : (Tryz.prog.info? 24).map (·.size) = some 6 := by kernel_rfl

section
variable {P : Program} {w : World} {ops : Array Oper} {rest : List Oper} {o : Oper} {a : Act} {Q : Exit → Act → World → Prop}
/-- A whole value laid into the block that was made last. -/
theorem wpList_storeLast (hgd : o.guard = none) (ty : TypeId) (x y : Operand) (ho : o.op = .store ty x y) (old : Array Value) (g : Nat) (hgg : w.heap.size = g) (hx : a.eval x = .pointer (some ⟨g, 0, none⟩)) (cells : Array Value) (hy : a.eval y = .agg cells)
    (n : Nat) (hi : (P.info? ty).map (·.size) = some n) (hn : cells.size = n) (hold : old.size = n) (h1 : cells.all (·.oneCell') = true) (h : wpList P ops Q rest (a.put o.dst undef) (w.alloc (.cells cells ty))) :
    wpList P ops Q (o :: rest) a (w.alloc (.cells old ty)) := by
  subst hgg
  refine wpList_store_row hgd ty x y ho w.heap.size cells hx hy ty old (heap_alloc_last w _) (by rw [hi, hn]) (by omega) h1 ?_
  rw [World.setRow_alloc_new]
  exact h
theorem results_cellTmp {fn : Func} {p q : Tmp} {ty : TypeId} (h : fn.results = #[.cell p ty, .tmp q]) (tmps : Array Value) (w : World) (g : Nat) (t : TypeId) (cs : Array Value) (d : TypeDesc)
    (hp : tmps.getD p undef = .pointer (some ⟨g, 0, none⟩)) (v : Value) (hv : tmps.getD q undef = v) (hg : Blk w g cs t)
    (hu : P.underlying ty = some d) (hd : (match d with | .struct _ | .array _ _ => true | _ => false) = true) (hi : (P.info? ty).map (·.size) = some cs.size) :
    (results fn tmps).run P w = .ok (.tuple #[.agg cs, v]) w := by
  have hp' : tmps[p]?.getD undef = .pointer (some ⟨g, 0, none⟩) := by simpa using hp
  have hv' : tmps[q]?.getD undef = v := by simpa using hv
  simp [results, h, hp', hv', asAddr, run_loadVar_row w g t ty cs (0, 0) d hg hu hd hi]
end
end Go.Proofs.YtglfhmlcmffoaaaGreat

/-
  Codes: the walks of arePlaces, hasTwice. What the dump lacks is left out.
-/
namespace Go.Proofs.YtglfhmlcmffoaaaGreat
open Go.RowKit
set_option linter.unusedVariables false
set_option linter.unusedSimpArgs false

section
variable (p0 p1 p2 p3 : Int) (w : World)
theorem idx_0 : (Instr.index 57 (.agg #[.int .i64 p0, .int .i64 p1, .int .i64 p2, .int .i64 p3]) (.int .i64 0)).run Tryz.prog w = .ok (.int .i64 p0) w := by kernel_rfl
theorem idx_1 : (Instr.index 57 (.agg #[.int .i64 p0, .int .i64 p1, .int .i64 p2, .int .i64 p3]) (.int .i64 1)).run Tryz.prog w = .ok (.int .i64 p1) w := by kernel_rfl
theorem idx_2 : (Instr.index 57 (.agg #[.int .i64 p0, .int .i64 p1, .int .i64 p2, .int .i64 p3]) (.int .i64 2)).run Tryz.prog w = .ok (.int .i64 p2) w := by kernel_rfl
theorem idx_3 : (Instr.index 57 (.agg #[.int .i64 p0, .int .i64 p1, .int .i64 p2, .int .i64 p3]) (.int .i64 3)).run Tryz.prog w = .ok (.int .i64 p3) w := by kernel_rfl
end

set_option maxRecDepth 10000 in
set_option maxHeartbeats 2000000 in
theorem places_any (p0 p1 p2 p3 : Int) (w : World) : Calls Tryz.prog 138 #[.agg #[.int .i64 p0, .int .i64 p1, .int .i64 p2, .int .i64 p3]] w fun e w' => e = .returned (.bool (inB p0 4 && (inB p1 4 && (inB p2 4 && inB p3 4)))) ∧ Ext w w' := by
  obtain ⟨y, E⟩ : ∃ y, Hid ((inB p0 4 && (inB p1 4 && (inB p2 4 && inB p3 4))) = y) := ⟨_, rfl⟩
  rw [unhide E]
  have x0 := idx_0 p0 p1 p2 p3
  have x1 := idx_1 p0 p1 p2 p3
  have x2 := idx_2 p0 p1 p2 p3
  have x3 := idx_3 p0 p1 p2 p3
  cases q0 : inB p0 4
  case false =>
    rw [q0] at E
    go_enter Tryz.func138, Tryz.ntmps138
    go_wp2
    refine wp_loop_rounds 1 ?_
    rw [rounds_succ]
    go_wp2_with (go_at_call 95; refine (isBelow_any _ _ _).mono ?_; rintro e w1 ⟨rfl, rfl⟩)
    go_ret
    exact ⟨congrArg _ (congrArg _ (unhide E)), (Ext.refl w).alloc _⟩
  case true =>
  cases q1 : inB p1 4
  case false =>
    rw [q0, q1] at E
    go_enter Tryz.func138, Tryz.ntmps138
    go_wp2
    refine wp_loop_rounds 2 ?_
    rw [rounds_succ]
    go_wp2_with (go_at_call 95; refine (isBelow_any _ _ _).mono ?_; rintro e w1 ⟨rfl, rfl⟩)
    rw [rounds_succ]
    go_wp2_with (go_at_call 95; refine (isBelow_any _ _ _).mono ?_; rintro e w1 ⟨rfl, rfl⟩)
    go_ret
    exact ⟨congrArg _ (congrArg _ (unhide E)), (Ext.refl w).alloc _⟩
  case true =>
  cases q2 : inB p2 4
  case false =>
    rw [q0, q1, q2] at E
    go_enter Tryz.func138, Tryz.ntmps138
    go_wp2
    refine wp_loop_rounds 3 ?_
    rw [rounds_succ]
    go_wp2_with (go_at_call 95; refine (isBelow_any _ _ _).mono ?_; rintro e w1 ⟨rfl, rfl⟩)
    rw [rounds_succ]
    go_wp2_with (go_at_call 95; refine (isBelow_any _ _ _).mono ?_; rintro e w1 ⟨rfl, rfl⟩)
    rw [rounds_succ]
    go_wp2_with (go_at_call 95; refine (isBelow_any _ _ _).mono ?_; rintro e w1 ⟨rfl, rfl⟩)
    go_ret
    exact ⟨congrArg _ (congrArg _ (unhide E)), (Ext.refl w).alloc _⟩
  case true =>
  cases q3 : inB p3 4
  all_goals
    rw [q0, q1, q2, q3] at E
    go_enter Tryz.func138, Tryz.ntmps138
    go_wp2
    refine wp_loop_rounds 5 ?_
    rw [rounds_succ]
    go_wp2_with (go_at_call 95; refine (isBelow_any _ _ _).mono ?_; rintro e w1 ⟨rfl, rfl⟩)
    rw [rounds_succ]
    go_wp2_with (go_at_call 95; refine (isBelow_any _ _ _).mono ?_; rintro e w1 ⟨rfl, rfl⟩)
    rw [rounds_succ]
    go_wp2_with (go_at_call 95; refine (isBelow_any _ _ _).mono ?_; rintro e w1 ⟨rfl, rfl⟩)
    rw [rounds_succ]
    go_wp2_with (go_at_call 95; refine (isBelow_any _ _ _).mono ?_; rintro e w1 ⟨rfl, rfl⟩)
    try
      rw [rounds_succ]
      go_wp2
    go_ret
    exact ⟨congrArg _ (congrArg _ (unhide E)), (Ext.refl w).alloc _⟩

theorem twB_snoc (l : List Int) (x : Int) : twB (l ++ [x]) = (twB l || l.contains x) := by
  induction l with
  | nil => simp [twB]
  | cons a r ih =>
    rw [List.cons_append, twB, ih, twB]
    simp only [List.contains_append, List.contains_cons, List.contains_nil, Bool.or_false]
    rw [show (a == x) = (x == a) from BEq.comm]
    cases r.contains a <;> cases (x == a) <;> cases twB r <;> cases r.contains x <;> rfl
theorem twB_pre (l r : List Int) (h : twB l = true) : twB (l ++ r) = true := by
  induction l with
  | nil => simp [twB] at h
  | cons a t ih =>
    rw [twB, Bool.or_eq_true] at h
    rw [List.cons_append, twB, Bool.or_eq_true, List.contains_append, Bool.or_eq_true]
    rcases h with h | h
    · exact .inl (.inl h)
    · exact .inr (ih h)
def seenA (l : List Int) : Array Value := #[.bool (l.contains 0), .bool (l.contains 1), .bool (l.contains 2), .bool (l.contains 3)]
theorem seen_at (l : List Int) (x : Int) (h : inB x 4 = true) : (seenA l)[x.toNat]? = some (.bool (l.contains x)) ∧ 0 ≤ x ∧ x < 4 := by
  simp only [inB, Bool.and_eq_true, decide_eq_true_eq] at h
  rcases (by omega : x = 0 ∨ x = 1 ∨ x = 2 ∨ x = 3) with rfl | rfl | rfl | rfl <;> exact ⟨rfl, by omega, by omega⟩
theorem seen_set (l : List Int) (x : Int) (h : inB x 4 = true) : (seenA l).setIfInBounds x.toNat (.bool true) = seenA (l ++ [x]) := by
  simp only [inB, Bool.and_eq_true, decide_eq_true_eq] at h
  rcases (by omega : x = 0 ∨ x = 1 ∨ x = 2 ∨ x = 3) with rfl | rfl | rfl | rfl <;> simp [seenA]

set_option maxRecDepth 10000 in
set_option maxHeartbeats 2000000 in
theorem twice_any (ao : Option Addr) (cap : Nat) (xs : List Int) (w : World) (hr : Row .i64 w (.slice ao xs.length cap) xs) (hp : ∀ x ∈ xs, inB x 4 = true) (hl : xs.length ≤ 4) :
    Calls Tryz.prog 139 #[.slice ao xs.length cap] w fun e w' => e = .returned (.bool (twB xs)) ∧ Ext w w' := by
  have HR := hide hr
  have HP := hide hp
  clear hr hp
  have HB : Hid (Blk (w.alloc (.cells #[.bool false, .bool false, .bool false, .bool false] 170)) w.heap.size (seenA []) 170) := Blk.new w _ _
  go_enter Tryz.func139, Tryz.ntmps139
  go_wp2
  go_loopw [8] (fun iv wr => ∃ k : Nat, k ≤ xs.length ∧ iv = .int .i64 (k : Int) ∧ Blk wr w.heap.size (seenA (xs.take k)) 170 ∧ Ext w wr ∧ twB (xs.take k) = false) (fun iv _ => xs.length - (intOf iv).toNat)
  case atStart => exact ⟨0, Nat.zero_le _, rfl, unhide HB, (Ext.refl w).alloc _, rfl⟩
  case round =>
    obtain ⟨k, hk, rfl, hb, hx, htw⟩ := hrel
    have X := hide hx
    have B := hide hb
    have HT := hide htw
    clear hx hb htw
    by_cases hlt : k < xs.length
    · obtain ⟨b, off, ea, hc⟩ := ((unhide HR).ext (unhide X)).at k hlt
      subst ea
      have c0 := hc k hlt
      have hq := unhide HP xs[k] (List.getElem_mem hlt)
      have HS := hide (seen_set (xs.take k) xs[k] hq)
      obtain ⟨s0, s1, s2⟩ := seen_at (xs.take k) xs[k] hq
      have HK := hide (List.take_succ_eq_append_getElem hlt)
      have HD : Hid (xs = xs.take (k + 1) ++ xs.drop (k + 1)) := (List.take_append_drop _ _).symm
      have hcl := (unhide B).cell s0
      have hfr := (unhide B).free xs[k].toNat
      have HSN := hide (twB_snoc (xs.take k) xs[k])
      clear hc s0 hq
      generalize xs[k] = x at *
      have htn : ((x.toNat : Nat) : Int) = x := by omega
      cases hct : (xs.take k).contains x
      case true =>
        rw [hct] at hcl
        have E : Hid (twB xs = true) := by
          rw [Hid, unhide HD]
          refine twB_pre _ _ ?_
          rw [unhide HK, unhide HSN, hct]
          simp
        go_wp2
        go_ret
        rw [unhide E]
        exact ⟨rfl, unhide X⟩
      case false =>
        rw [hct] at hcl
        have HB2 := hide ((unhide B).set x.toNat (.bool true))
        go_wp2
        go_roundw
        case rel =>
          refine ⟨k + 1, by omega, by go_num, ?_, ?_, ?_⟩
          · rw [unhide HK, ← unhide HS]
            exact unhide HB2
          · exact (unhide X).grown (grownBy_set _ _ _ _) (unhide X).size (fun j e => by cases e; exact Nat.le_refl _)
          · rw [unhide HK, unhide HSN, hct, unhide HT]; rfl
        case measure => simp [intOf]; omega
    · obtain rfl : k = xs.length := by omega
      have E : Hid (twB xs = false) := by have := unhide HT; rw [List.take_length] at this; exact this
      go_wp2
      go_ret
      rw [unhide E]
      exact ⟨rfl, unhide X⟩
end Go.Proofs.YtglfhmlcmffoaaaGreat

/-
  Codes: rows of instructions that are read; the walks of hasRegisters and of fieldsMayBe. What the dump lacks is left out.
-/
namespace Go.Proofs.YtglfhmlcmffoaaaGreat
open Go.RowKit
set_option linter.unusedVariables false
set_option linter.unusedSimpArgs false

/-- The slice value v holds the instructions L. -/
def IR (w : World) (v : Value) (L : List (Nat → Int)) : Prop := ∃ ao cap, v = .slice ao L.length cap ∧ (ao = none → cap = 0) ∧ L.length ≤ cap ∧ cap ≤ maxLen ∧ ∀ i (h : i < L.length), ∃ b off, ao = some ⟨b, off, none⟩ ∧ w.rangeAt b (off + i * 16) (insA L[i]).toList
theorem rng_ext {w w' : World} {b o : Nat} {cs : List Value} (h : w.rangeAt b o cs) (hx : Ext w w') : w'.rangeAt b o cs := by
  intro j v hv
  have := h j v hv
  rw [hx.cell (p := ⟨b, o + j, none⟩) (World.block_lt_of_cell? w _ this)]
  exact this
theorem IR.ext {w w' : World} {v : Value} {L : List (Nat → Int)} (h : IR w v L) (hx : Ext w w') : IR w' v L := by
  obtain ⟨ao, cap, e, h1, h2, h3, h4⟩ := h
  refine ⟨ao, cap, e, h1, h2, h3, fun i hi => ?_⟩
  obtain ⟨b, off, e2, c⟩ := h4 i hi
  exact ⟨b, off, e2, rng_ext c hx⟩

set_option maxRecDepth 10000 in
set_option maxHeartbeats 4000000 in
theorem regs_any (C : Cod) (v : Value) (I : Nat → Int) (w : World) : Calls Tryz.prog 97 #[.agg #[.int .i64 (C).stage, v, .int .i64 (C).regs, .int .i64 (C).attr, .int .i64 (C).unif, .int .i64 (C).vary], .agg (insA I)] w fun e w' => e = .returned (.bool (rgsB C I)) ∧ Ext w w' := by
  have E := hide (show rgsB C I = ((readsP I).all (fun r => inB r C.regs) && (!wrB (I 0) || inB (writI I) C.regs)) from rfl)
  generalize rgsB C I = y at *
  have HR := hide (fun wx => reads_any I wx)
  have HW := hide (fun wx => writes_any I wx)
  generalize readsP I = xs at *
  generalize wrB (I 0) = wb at *
  generalize writI I = wi at *
  have HI : Hid (Blk ((w.alloc (.cells #[.int .i64 (C).stage, v, .int .i64 (C).regs, .int .i64 (C).attr, .int .i64 (C).unif, .int .i64 (C).vary] 24)).alloc (.cells (insA I) 59)) (w.heap.size + 1) (insA I) 59) := Blk.here (by simp)
  have HC : Hid (Blk ((w.alloc (.cells #[.int .i64 (C).stage, v, .int .i64 (C).regs, .int .i64 (C).attr, .int .i64 (C).unif, .int .i64 (C).vary] 24)).alloc (.cells (insA I) 59)) w.heap.size #[.int .i64 (C).stage, v, .int .i64 (C).regs, .int .i64 (C).attr, .int .i64 (C).unif, .int .i64 (C).vary] 24) := (Blk.new w _ _).alloc _
  have HX := hide (((Ext.refl w).alloc (.cells #[.int .i64 (C).stage, v, .int .i64 (C).regs, .int .i64 (C).attr, .int .i64 (C).unif, .int .i64 (C).vary] 24)).alloc (.cells (insA I) 59))
  go_enter Tryz.func97, Tryz.ntmps97
  go_wp2_with (first
    | refine wpList_load_row rfl 59 (.tmp 3) rfl (w.heap.size + 1) rfl 59 (insA I) (0, 0) _ (unhide HI) Tryz.underlying59 rfl sizeI16 ?_
    | (go_at_call 9999))
  refine (unhide HR _).mono ?_
  rintro e w3 ⟨ao, cap, rfl, hown, hx3⟩
  have HO := hide hown.row
  have HI3 := hide ((unhide HI).ext hx3)
  have HX3 := hide ((unhide HX).trans hx3)
  obtain ⟨_, _, k2, _, _, _⟩ := cellC ((unhide HC).ext hx3)
  clear hown hx3 HI HC HX HR
  have hb : xs.length ≤ 9223372036854775807 := by
    obtain ⟨_, _, e9, _, h9, h10⟩ := (unhide HO).shape
    unfold maxLen at h10
    omega
  go_wp2
  go_loopw [12] (fun iv wr => ∃ k : Nat, k ≤ xs.length ∧ iv = .int .i64 (k : Int) ∧ wr = w3 ∧ (xs.take k).all (fun r => inB r C.regs) = true) (fun iv _ => xs.length - (intOf iv).toNat)
  case atStart => exact ⟨0, Nat.zero_le _, rfl, rfl, rfl⟩
  case round =>
    obtain ⟨k, hk, rfl, rfl, hall⟩ := hrel
    have HA := hide hall
    clear hall
    by_cases hlt : k < xs.length
    · obtain ⟨b, off, ea, hc⟩ := (unhide HO).at k hlt
      subst ea
      have ck := hc k hlt
      have HK := hide (List.take_succ_eq_append_getElem hlt)
      have HM := hide (List.getElem_mem hlt)
      generalize xs[k] = x at *
      clear hc
      cases hq : inB x C.regs
      case false =>
        have EA : Hid (y = false) := by
          rw [Hid, unhide E, List.all_eq_false.2 ⟨x, unhide HM, by rw [hq]; decide⟩]
          rfl
        go_wp2_with (go_at_call 95; refine (isBelow_any _ _ _).mono ?_; rintro e w1 ⟨rfl, rfl⟩)
        go_ret
        rw [unhide EA]
        exact ⟨rfl, unhide HX3⟩
      case true =>
        go_wp2_with (go_at_call 95; refine (isBelow_any _ _ _).mono ?_; rintro e w1 ⟨rfl, rfl⟩)
        go_roundw
        case rel =>
          refine ⟨k + 1, by omega, by go_num, by first | rfl | trivial, ?_⟩
          rw [unhide HK, List.all_append, unhide HA]
          simp [hq]
        case measure => simp [intOf]; omega
    · obtain rfl : k = xs.length := by omega
      have EA : Hid (y = (!wb || inB wi C.regs)) := by
        have h1 := unhide HA
        rw [List.take_length] at h1
        rw [Hid, unhide E, h1]
        rfl
      go_wp2_with (first
        | refine wpList_load_row rfl 59 (.tmp 3) rfl (w.heap.size + 1) rfl 59 (insA I) (0, 0) _ (unhide HI3) Tryz.underlying59 rfl sizeI16 ?_
        | (go_at_call 9999))
      refine (unhide HW _).mono ?_
      rintro e w4 ⟨rfl, hx4⟩
      have HX4 := hide ((unhide HX3).trans hx4)
      have k2' : w4.cell? ⟨w.heap.size, 2, none⟩ = some (.int .i64 C.regs) := by
        rw [hx4.cell (p := ⟨w.heap.size, 2, none⟩) (World.block_lt_of_cell? _ _ k2)]
        exact k2
      clear hx4 k2
      cases wb
      all_goals
        go_wp2_with (go_at_call 95; refine (isBelow_any _ _ _).mono ?_; rintro e w1 ⟨rfl, rfl⟩)
        go_ret
        rw [unhide EA]
        exact ⟨rfl, unhide HX4⟩
end Go.Proofs.YtglfhmlcmffoaaaGreat

/-
  The machine of registers in memory: surroundings, registers, what has come of a run; load and store.
-/
namespace Go.Proofs.YtglfhmlcmffoaaaGreat
open Go.RowKit
set_option linter.unusedVariables false
set_option linter.unusedSimpArgs false

/-- Surroundings as cells: three rows, Coord, Front, Point, the images. -/
structure EnvC where
  va : Value
  vu : Value
  vv : Value
  co : Nat → Int
  fr : Bool
  pt : Nat → Int
  vi : Value
def envA (E : EnvC) : Array Value := #[E.va, E.vu, E.vv, .int .i32 (E.co 0), .int .i32 (E.co 1), .int .i32 (E.co 2), .int .i32 (E.co 3), .bool E.fr, .int .i32 (E.pt 0), .int .i32 (E.pt 1), .int .i32 (E.pt 2), .int .i32 (E.pt 3), E.vi]
/-- What has come of a run, as cells. -/
structure OutC where
  po : Nat → Int
  sz : Int
  vy : Value
  cl : Nat → Int
  dc : Bool
def outA (O : OutC) : Array Value := #[.int .i32 (O.po 0), .int .i32 (O.po 1), .int .i32 (O.po 2), .int .i32 (O.po 3), .int .i32 O.sz, O.vy, .int .i32 (O.cl 0), .int .i32 (O.cl 1), .int .i32 (O.cl 2), .int .i32 (O.cl 3), .bool O.dc]
/-- A machine as cells. -/
def mcA (E : EnvC) (vr : Value) (O : OutC) : Array Value :=
  #[E.va, E.vu, E.vv, .int .i32 (E.co 0), .int .i32 (E.co 1), .int .i32 (E.co 2), .int .i32 (E.co 3), .bool E.fr, .int .i32 (E.pt 0), .int .i32 (E.pt 1), .int .i32 (E.pt 2), .int .i32 (E.pt 3), E.vi, vr,
    .int .i32 (O.po 0), .int .i32 (O.po 1), .int .i32 (O.po 2), .int .i32 (O.po 3), .int .i32 O.sz, O.vy, .int .i32 (O.cl 0), .int .i32 (O.cl 1), .int .i32 (O.cl 2), .int .i32 (O.cl 3), .bool O.dc]
theorem sizeMc : (Tryz.prog.info? 71).map (·.size) = some 25 := by kernel_rfl
/-- Surroundings, plainly. -/
structure Sur where
  att : List (Nat → Int)
  uni : List (Nat → Int)
  vry : List (Nat → Int)
  co : Nat → Int
  fr : Bool
  pt : Nat → Int
def reg (R : List (Nat → Int)) (x : Int) : Nat → Int := R.getD x.toNat nul
/-- What OpLoad loads. -/
def loadP (S : Sur) (I : Nat → Int) : Nat → Int :=
  if I 1 = 1 then reg S.att (I 5) else if I 1 = 2 then reg S.uni (I 5) else if I 1 = 3 then reg S.vry (I 5) else if I 1 = 4 then S.co else if I 1 = 5 then truI S.fr else fun i => if i = 0 then S.pt 0 else if i = 1 then S.pt 1 else 0
/-- The rows of vectors of surroundings in memory. -/
def SurAt (w : World) (E : EnvC) (S : Sur) : Prop := VRow w E.va S.att ∧ VRow w E.vu S.uni ∧ VRow w E.vv S.vry ∧ E.co = S.co ∧ E.fr = S.fr ∧ E.pt = S.pt
theorem SurAt.ext {w w' : World} {E : EnvC} {S : Sur} (h : SurAt w E S) (hx : Ext w w') : SurAt w' E S := ⟨h.1.ext hx, h.2.1.ext hx, h.2.2.1.ext hx, h.2.2.2⟩
/-- A vector of a row in memory. -/
theorem VRow.reg {w : World} {v : Value} {L : List (Nat → Int)} (h : VRow w v L) {x : Int} (h0 : 0 ≤ x) (h1 : x < (L.length : Int)) :
    ∃ b off cap, ∃ k : Nat, x = (k : Int) ∧ k < L.length ∧ v = .slice (some ⟨b, off, none⟩) L.length cap ∧ w.cell? ⟨b, off + k * 4, none⟩ = some (.int .i32 (Go.Proofs.YtglfhmlcmffoaaaGreat.reg L x 0)) ∧ w.cell? ⟨b, off + k * 4 + 1, none⟩ = some (.int .i32 (Go.Proofs.YtglfhmlcmffoaaaGreat.reg L x 1)) ∧ w.cell? ⟨b, off + k * 4 + 2, none⟩ = some (.int .i32 (Go.Proofs.YtglfhmlcmffoaaaGreat.reg L x 2)) ∧ w.cell? ⟨b, off + k * 4 + 3, none⟩ = some (.int .i32 (Go.Proofs.YtglfhmlcmffoaaaGreat.reg L x 3)) := by
  obtain ⟨k, rfl⟩ : ∃ k : Nat, x = (k : Int) := ⟨x.toNat, by omega⟩
  have hk : k < L.length := by omega
  rcases h with ⟨rfl, _⟩ | ⟨_, b, off, cap, rfl, hc⟩
  · simp at hk
  · refine ⟨b, off, cap, k, rfl, hk, rfl, ?_⟩
    have e : Go.Proofs.YtglfhmlcmffoaaaGreat.reg L (k : Int) = L.getD k nul := by unfold Go.Proofs.YtglfhmlcmffoaaaGreat.reg; rw [Int.toNat_natCast]
    rw [e]
    exact ⟨hc k 0 hk (by omega), hc k 1 hk (by omega), hc k 2 hk (by omega), hc k 3 hk (by omega)⟩
end Go.Proofs.YtglfhmlcmffoaaaGreat
