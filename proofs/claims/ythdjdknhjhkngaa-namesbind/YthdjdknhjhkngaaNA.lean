/-
  Names, plainly: how they stand as cells in memory, which are free, what becomes of them. Nothing here walks.
-/
import Derived.Test.YthdjdknhjhkngaaBlk
import Derived.Laws.CopyOwn
import Derived.Deep.MidRow
import Derived.Deep.WholeRow
import Derived.Great.BuildSlice
namespace Go.Proofs.Ythdjdknhjhkngaa
open Go.RowKit

theorem Blk.at {w : World} {b : Nat} {cs : Array Value} {t : TypeId} (h : w.heap.size = b) : Blk (w.alloc (.cells cs t)) b cs t := h ▸ Blk.new w cs t
theorem Blk.row {w : World} {b : Nat} {cs cs' : Array Value} {t : TypeId} (h : Blk w b cs t) : Blk (w.setRow b cs') b cs' t := setRow_heap w b cs cs' t (0, 0) h
theorem Blk.rowOther {w : World} {b r : Nat} {cs cs' : Array Value} {t : TypeId} (h : Blk w b cs t) (hne : b ≠ r) : Blk (w.setRow r cs') b cs t := (setRow_other w r b cs' hne).trans h
theorem ext_row {w w1 : World} {b : Nat} {cs : Array Value} (h : Ext w w1) (hb : w.heap.size ≤ b) : Ext w (w1.setRow b cs) := below_setRow h hb cs

section
variable {P : Program} {w : World} {ops : Array Oper} {rest : List Oper} {o : Oper} {a : Act} {Q : Exit → Act → World → Prop}
/-- A whole value laid into the block that was made last. -/
theorem wpList_store_last (hgd : o.guard = none) (ty : TypeId) (x y : Operand) (ho : o.op = .store ty x y) (old : Array Value) (hx : a.eval x = .pointer (some ⟨w.heap.size, 0, none⟩)) (cells : Array Value) (hy : a.eval y = .agg cells)
    (n : Nat) (hi : (P.info? ty).map (·.size) = some n) (hn : cells.size = n) (hold : old.size = n) (h1 : cells.all (·.oneCell') = true) (h : wpList P ops Q rest (a.put o.dst undef) (w.alloc (.cells cells ty))) :
    wpList P ops Q (o :: rest) a (w.alloc (.cells old ty)) := by
  refine wpList_store_row hgd ty x y ho w.heap.size cells hx hy ty old (heap_alloc_last w _) (by rw [hi, hn]) (by omega) h1 ?_
  rw [World.setRow_alloc_new]
  exact h
theorem run_zero {t : TypeId} {z : Value} (h : (P.info? t).map (·.zero) = some (some z)) (w : World) : (zeroValue t).run P w = .ok z w := by
  cases hq : P.info? t with
  | none => simp [hq] at h
  | some i =>
    have hz : i.zero = some z := by simpa [hq] using h
    simp [zeroValue, typeInfo, hq, hz]
theorem results_cell_tmp2 {fn : Func} {p q r : Tmp} {ty : TypeId} (h : fn.results = #[.cell p ty, .tmp q, .tmp r]) (tmps : Array Value) (w : World) (g : Nat) (t : TypeId) (cs : Array Value) (d : TypeDesc)
    (hp : tmps.getD p undef = .pointer (some ⟨g, 0, none⟩)) (v v2 : Value) (hv : tmps.getD q undef = v) (hv2 : tmps.getD r undef = v2) (hg : Blk w g cs t)
    (hu : P.underlying ty = some d) (hd : (match d with | .struct _ | .array _ _ => true | _ => false) = true) (hi : (P.info? ty).map (·.size) = some cs.size) :
    (results fn tmps).run P w = .ok (.tuple #[.agg cs, v, v2]) w := by
  have hp' : tmps[p]?.getD undef = .pointer (some ⟨g, 0, none⟩) := by simpa using hp
  have hv' : tmps[q]?.getD undef = v := by simpa using hv
  have hv2' : tmps[r]?.getD undef = v2 := by simpa using hv2
  simp [results, h, hp', hv', hv2', asAddr, run_loadVar_row w g t ty cs (0, 0) d hg hu hd hi]
end

/-- How the names 0 to 64 stand, as cells of kind k. -/
def nstL (k : IntKind) (s : Nat → Int) : List Value := (List.range 65).map fun i => Value.int k (s i)
def nst (k : IntKind) (s : Nat → Int) : Array Value := (nstL k s).toArray
/-- Names: how they stand, and which one is bound. -/
def nms (k : IntKind) (s : Nat → Int) (b : Int) : Array Value := (nstL k s ++ [Value.int .i64 b]).toArray
/-- None but free ones. -/
def nul : Nat → Int := fun _ => 0
/-- Name i stands as v from now on. -/
def upd (s : Nat → Int) (i : Nat) (v : Int) : Nat → Int := fun j => if j = i then v else s j

theorem nstL_length (k : IntKind) (s : Nat → Int) : (nstL k s).length = 65 := by simp [nstL]
theorem nst_size (k : IntKind) (s : Nat → Int) : (nst k s).size = 65 := by simp [nst, nstL]
theorem nms_size (k : IntKind) (s : Nat → Int) (b : Int) : (nms k s b).size = 66 := by simp [nms, nstL]
theorem nstL_get (k : IntKind) (s : Nat → Int) {i : Nat} (h : i < 65) : (nstL k s)[i]? = some (.int k (s i)) := by simp [nstL, h]
theorem nst_get (k : IntKind) (s : Nat → Int) {i : Nat} (h : i < 65) : (nst k s)[i]? = some (.int k (s i)) := by simp [nst, nstL, h]
theorem nms_get (k : IntKind) (s : Nat → Int) (b : Int) {i : Nat} (h : i < 65) : (nms k s b)[i]? = some (.int k (s i)) := by
  unfold nms
  rw [List.getElem?_toArray, List.getElem?_append_left (by rw [nstL_length]; exact h), nstL_get k s h]
theorem nms_bound (k : IntKind) (s : Nat → Int) (b : Int) : (nms k s b)[65]? = some (.int .i64 b) := by
  unfold nms
  rw [List.getElem?_toArray, List.getElem?_append_right (by rw [nstL_length]; exact Nat.le_refl _), nstL_length]
  rfl
theorem nstL_set (k : IntKind) (s : Nat → Int) (i : Nat) (v : Int) : (nstL k s).set i (.int k v) = nstL k (upd s i v) := by
  apply List.ext_getElem?
  intro j
  by_cases hj : j < 65
  · rw [nstL_get _ _ hj, List.getElem?_set, nstL_length, nstL_get _ _ hj]
    unfold upd
    by_cases h : i = j
    · subst h; simp [hj]
    · simp [h, Ne.symm h]
  · rw [List.getElem?_eq_none (by simp [nstL]; omega), List.getElem?_eq_none (by simp [nstL]; omega)]
theorem nms_set (k : IntKind) (s : Nat → Int) (b : Int) {i : Nat} (h : i < 65) (v : Int) : (nms k s b).setIfInBounds i (.int k v) = nms k (upd s i v) b := by
  unfold nms
  rw [← nstL_set, List.setIfInBounds_toArray, List.set_append_left _ _ (by rw [nstL_length]; exact h)]
theorem nms_setB (k : IntKind) (s : Nat → Int) (b v : Int) : (nms k s b).setIfInBounds 65 (.int .i64 v) = nms k s v := by
  unfold nms
  rw [List.setIfInBounds_toArray, List.set_append_right _ _ (by rw [nstL_length]; exact Nat.le_refl _), nstL_length]
  rfl
theorem nstL_one (k : IntKind) (s : Nat → Int) : ∀ v ∈ nstL k s, v.oneCell' = true := by
  intro v hv
  obtain ⟨i, _, rfl⟩ := List.mem_map.1 hv
  rfl
theorem nms_one (k : IntKind) (s : Nat → Int) (b : Int) : (nms k s b).all (·.oneCell') = true := by
  refine all_oneCell_toArray ?_
  intro v hv
  rcases List.mem_append.1 hv with h | h
  · exact nstL_one k s v h
  · simp at h; subst h; rfl
theorem nst_one (k : IntKind) (s : Nat → Int) : (nst k s).all (·.oneCell') = true := all_oneCell_toArray (nstL_one k s)
theorem nms_range {w : World} {B : Nat} {k : IntKind} {s : Nat → Int} {b : Int} {t : TypeId} (h : Blk w B (nms k s b) t) : w.rangeAt B 0 (nstL k s) := by
  intro j v hv
  have hj : j < 65 := by have := (List.getElem?_eq_some_iff.1 hv).1; rwa [nstL_length] at this
  rw [nstL_get k s hj] at hv
  cases hv
  rw [Nat.zero_add]
  exact h.cell (nms_get k s b hj)
theorem nms_rangeW {w : World} {B : Nat} {k : IntKind} {s : Nat → Int} {b : Int} {t : TypeId} (h : Blk w B (nms k s b) t) : w.rangeAt B 0 (nms k s b).toList := by
  intro j v hv
  rw [Nat.zero_add]
  exact h.cell (by rw [← hv]; simp)
theorem upd_same (s : Nat → Int) (i : Nat) (v : Int) (h : s i = v) : upd s i v = s := by
  funext j
  unfold upd
  split
  · rename_i e; subst e; exact h.symm
  · rfl

/-! ### which are free -/
/-- The names up to k that stand as c. -/
def sel (s : Nat → Int) (c : Int) (k : Nat) : List Nat := (List.range' 1 k).filter fun i => decide (s i = c)
theorem sel_zero (s : Nat → Int) (c : Int) : sel s c 0 = [] := rfl
theorem sel_succ (s : Nat → Int) (c : Int) (k : Nat) : sel s c (k + 1) = sel s c k ++ (if s (k + 1) = c then [k + 1] else []) := by
  unfold sel
  rw [List.range'_concat, List.filter_append]
  by_cases h : s (k + 1) = c
  · simp [h, Nat.add_comm 1 k]
  · simp [h, Nat.add_comm 1 k]
theorem sel_yes {s : Nat → Int} {c : Int} {k : Nat} (h : s (k + 1) = c) : sel s c (k + 1) = sel s c k ++ [k + 1] := by rw [sel_succ, if_pos h]
theorem sel_no {s : Nat → Int} {c : Int} {k : Nat} (h : ¬ s (k + 1) = c) : sel s c (k + 1) = sel s c k := by rw [sel_succ, if_neg h, List.append_nil]
theorem sel_mem {s : Nat → Int} {c : Int} {k i : Nat} : i ∈ sel s c k ↔ (1 ≤ i ∧ i ≤ k ∧ s i = c) := by
  unfold sel
  rw [List.mem_filter, List.mem_range'_1]
  simp
  omega
theorem sel_prefix (s : Nat → Int) (c : Int) {k n : Nat} (h : k ≤ n) : sel s c k <+: sel s c n := by
  induction n with
  | zero =>
    have hk : k = 0 := by omega
    subst hk
    exact List.prefix_refl _
  | succ n ih =>
    by_cases hk : k = n + 1
    · subst hk; exact List.prefix_refl _
    · exact (ih (by omega)).trans (by rw [sel_succ]; exact List.prefix_append _ _)
theorem sel_le (s : Nat → Int) (c : Int) {k n : Nat} (h : k ≤ n) : (sel s c k).length ≤ (sel s c n).length := (sel_prefix s c h).length_le
theorem sel_bound (s : Nat → Int) (c : Int) (k : Nat) : (sel s c k).length ≤ k := by
  unfold sel
  refine Nat.le_trans (List.length_filter_le _ _) ?_
  simp
theorem sel_lt {s : Nat → Int} {c : Int} {k n : Nat} (h : k + 1 ≤ n) (hs : s (k + 1) = c) : (sel s c k).length < (sel s c n).length := by
  have := sel_le s c h
  rw [sel_yes hs] at this
  simp at this
  omega

/-- The n least free names. -/
def genL (s : Nat → Int) (n : Nat) : List Nat := (sel s 0 64).take n
/-- These are given from now on. -/
def setL (s : Nat → Int) (l : List Nat) : Nat → Int := fun j => if j ∈ l then 1 else s j
theorem setL_nil (s : Nat → Int) : setL s [] = s := by funext j; simp [setL]
theorem setL_snoc (s : Nat → Int) (l : List Nat) (i : Nat) : upd (setL s l) i 1 = setL s (l ++ [i]) := by
  funext j
  unfold upd setL
  by_cases h : j = i
  · simp [h]
  · simp [h]
theorem genL_of {s : Nat → Int} {n k : Nat} (hk : k ≤ 64) (h : (sel s 0 k).length = n) : genL s n = sel s 0 k := by
  unfold genL
  have hp := sel_prefix s 0 hk
  rw [← h]
  exact (List.prefix_iff_eq_take.1 hp).symm
theorem genL_length {s : Nat → Int} {n : Nat} (h : n ≤ (sel s 0 64).length) : (genL s n).length = n := by
  unfold genL
  rw [List.length_take]
  omega
theorem genL_mem {s : Nat → Int} {n i : Nat} (h : i ∈ genL s n) : 1 ≤ i ∧ i ≤ 64 ∧ s i = 0 := sel_mem.1 (List.mem_of_mem_take h)
/-- A list of names, as the numbers that the program lays. -/
def ints (l : List Nat) : List Int := l.map fun i : Nat => (i : Int)
theorem ints_length (l : List Nat) : (ints l).length = l.length := by simp [ints]

/-- What the states of names may be. -/
structure Sane (s : Nat → Int) (b : Int) : Prop where
  zero : s 0 = 0
  low : ∀ i, 0 ≤ s i
  high : ∀ i, s i ≤ 2
  blow : 0 ≤ b
  bhigh : b ≤ 64
  bobj : b ≠ 0 → s b.toNat = 2
theorem Sane.new : Sane nul 0 := ⟨rfl, fun _ => Int.le_refl _, fun _ => by show (0 : Int) ≤ 2; omega, by omega, by omega, fun h => absurd rfl h⟩
theorem Sane.gen {s : Nat → Int} {b : Int} (h : Sane s b) (n : Nat) : Sane (setL s (genL s n)) b where
  zero := by
    unfold setL
    rw [if_neg (fun h => by have := genL_mem h; omega)]
    exact h.zero
  low := fun i => by unfold setL; split; omega; exact h.low i
  high := fun i => by unfold setL; split; omega; exact h.high i
  blow := h.blow
  bhigh := h.bhigh
  bobj := fun hb => by
    have h2 := h.bobj hb
    unfold setL
    rw [if_neg (fun h => by have := genL_mem h; omega)]
    exact h2
theorem Sane.bind {s : Nat → Int} {b : Int} (h : Sane s b) {n : Nat} (h1 : 1 ≤ n) (h2 : n ≤ 64) : Sane (upd s n 2) n where
  zero := by unfold upd; rw [if_neg (by omega)]; exact h.zero
  low := fun i => by unfold upd; split; omega; exact h.low i
  high := fun i => by unfold upd; split; omega; exact h.high i
  blow := by omega
  bhigh := by omega
  bobj := fun _ => by unfold upd; simp
theorem Sane.none {s : Nat → Int} {b : Int} (h : Sane s b) : Sane s 0 := ⟨h.zero, h.low, h.high, by omega, by omega, fun h => absurd rfl h⟩
theorem Sane.del {s : Nat → Int} {b : Int} (h : Sane s b) (n : Nat) : Sane (upd s n 0) (if b = n then 0 else b) where
  zero := by unfold upd; split; rfl; exact h.zero
  low := fun i => by unfold upd; split; omega; exact h.low i
  high := fun i => by unfold upd; split; omega; exact h.high i
  blow := by split; omega; exact h.blow
  bhigh := by split; omega; exact h.bhigh
  bobj := fun hb => by
    split at hb
    · exact absurd rfl hb
    · rename_i hne
      rw [if_neg hne]
      unfold upd
      have := h.blow
      rw [if_neg (by omega)]
      exact h.bobj hb
end Go.Proofs.Ythdjdknhjhkngaa
