/-
  Names in a map: which are free; lists of names, rising; how many are free behind.
-/
import Derived.Test.YthdjdknhjhkngaaNM
import Derived.Maps.OwnSet
import Derived.Maps.Views
namespace Go.Proofs.Ythdjdknhjhkngaa
open Go.RowKit

theorem plainElem_bool_inv {H : Type} {P : Program} {e : TypeId} (he : P.underlying e = some .bool) {v : Value} {z : DataW H × List MemPlace} (h : plainElem P e v = some z) : ∃ x, v = .bool x ∧ z = (.lit (.bool x), []) := by
  unfold plainElem at h
  rw [he] at h
  cases v <;> simp at h
  exact ⟨_, rfl, h.symm⟩

theorem key_wf {i : Nat} (h : i ≤ 64) : (Lit.int .i64 (i : Int)).wf = true := by
  have h1 := wrap64_wf (i : Int)
  rwa [show wrap64 (i : Int) = (i : Int) by unfold wrap64; omega] at h1
theorem zero_bool (w : World) : (zeroValue 4).run Try.prog w = .ok (.bool false) w := run_zero (by kernel_rfl) w

/-- The map in block m says of each name up to k whether it is free. -/
def FM (w : World) (m : Nat) (s : Nat → Int) (k : Nat) : Prop :=
  ∃ D : DataW Unit, w.ownsMap Try.prog 3 (plainElem Try.prog 4) m k D ∧ ∀ i : Nat, 1 ≤ i → i ≤ k → D.atKey (.int .i64 (i : Int)) (.lit (.bool false)) = .lit (.bool (!(s i != 0)))
theorem FM.new (w : World) (s : Nat → Int) : FM (w.alloc (.map #[] 0)) w.heap.size s 0 := ⟨.map [], World.ownsMap_made w _ _ _, fun i h1 h2 => by omega⟩
theorem FM.kept {w w' : World} {m : Nat} {s : Nat → Int} {k : Nat} {row : Option Nat} (h : FM w m s k) (hg : w.grownBy w' row) (hne : some m ≠ row) : FM w' m s k := by
  obtain ⟨D, h1, h2⟩ := h
  exact ⟨D, h1.kept hg hne, h2⟩
theorem FM.lt {w : World} {m : Nat} {s : Nat → Int} {k : Nat} (h : FM w m s k) : m < w.heap.size := by
  obtain ⟨D, h1, h2⟩ := h
  exact h1.lt
theorem FM.look {w : World} {m : Nat} {s : Nat → Int} {k : Nat} (h : FM w m s k) (hk : k ≤ 64) (i : Nat) (h1 : 1 ≤ i) (h2 : i ≤ k) :
    (Instr.lookup 49 (.map (some m)) (.int .i64 (i : Int)) false).run Try.prog w = .ok (.bool (!(s i != 0))) w := by
  obtain ⟨D, hown, hat⟩ := h
  obtain ⟨v, ps, hrun, hv⟩ := hown.lookup (Maps.int_keyed Try.underlying3) Try.underlying49 (zero_bool w) (plainElem_bool Try.underlying4 false) (Maps.keyOf_int_mk Try.underlying3 (key_wf (i := i) (by omega)))
  obtain ⟨x, rfl, hx⟩ := plainElem_bool_inv Try.underlying4 hv
  rw [hat i h1 h2] at hx
  simp only [Prod.mk.injEq, DataW.lit.injEq, Lit.bool.injEq] at hx
  rw [hrun, hx.1]

/-- 'free[k + 1] = ..', the names up to k being in the map. -/
theorem wpList_FM {w : World} {ops : Array Oper} {rest : List Oper} {o : Oper} {a : Act} {Q : Exit → Act → World → Prop}
    (hg : o.guard = none) (mo x v : Operand) (hop : o.op = Op.mapUpdate 49 mo x v) (m : Nat) (s : Nat → Int) (k : Nat) (hk : k + 1 ≤ 64) (hfm : FM w m s k)
    (hm : a.eval mo = .map (some m)) (hx : a.eval x = .int .i64 ((k : Int) + 1)) (y : Bool) (hv : a.eval v = .bool y) (hy : y = !(s (k + 1) != 0))
    (hK : ∀ w', FM w' m s (k + 1) → w.grownBy w' (some m) → wpList Try.prog ops Q rest (a.put o.dst undef) w') : wpList Try.prog ops Q (o :: rest) a w := by
  obtain ⟨D, hown, hat⟩ := hfm
  have hx2 : a.eval x = .int .i64 ((k + 1 : Nat) : Int) := by rw [hx]; congr 1
  subst hy
  refine wpList_mapUpdate_own w hg mo x v 49 hop 3 4 (Maps.int_keyed Try.underlying3) Try.underlying49 _ m k D hm hown (by unfold maxLen; omega) _ _ _ hx2 hv (Maps.keyOf_int_mk Try.underlying3 (key_wf hk)) _ [] (plainElem_bool Try.underlying4 _) ?_
  intro w' h1 h2
  refine hK w' ⟨_, h1, fun i hi1 hi2 => ?_⟩ h2
  by_cases hi : i = k + 1
  · subst hi
    exact Maps.atKey_put_same hown.isMap (by simp [WideAt.IsKeyLit]) _ _
  · rw [Maps.atKey_put_other (by simp; omega)]
    exact hat i hi1 (by omega)

/-! ### lists of names -/
theorem sel_rise (s : Nat → Int) (c : Int) (k : Nat) : (sel s c k).Pairwise (· < ·) := by
  unfold sel
  exact List.Pairwise.filter _ (List.pairwise_lt_range' ..)
/-- What stands ahead of the element j; 0 ahead of the first. -/
def ahead (l : List Nat) (j : Nat) : Nat := if j = 0 then 0 else l.getD (j - 1) 0
theorem genL_get {s : Nat → Int} {n j : Nat} (h : j < (genL s n).length) : ∃ h2 : j < (sel s 0 64).length, (genL s n)[j] = (sel s 0 64)[j] := by
  unfold genL at *
  rw [List.length_take] at h
  exact ⟨by omega, List.getElem_take⟩
theorem gen_rise {s : Nat → Int} {n j : Nat} (h : j < (genL s n).length) : ahead (genL s n) j < (genL s n)[j] := by
  obtain ⟨h2, e⟩ := genL_get h
  have hp := List.pairwise_iff_getElem.1 (sel_rise s 0 64)
  unfold ahead
  split
  · have := (genL_mem (List.getElem_mem h)).1
    omega
  · have h3 : j - 1 < (genL s n).length := by omega
    obtain ⟨h4, e2⟩ := genL_get h3
    rw [e, show (genL s n).getD (j - 1) 0 = (genL s n)[j - 1] by simp [h3], e2]
    exact hp _ _ h4 h2 (by omega)
theorem gen_none {s : Nat → Int} {n j : Nat} (h : j < (genL s n).length) {k : Nat} (h1 : ahead (genL s n) j < k) (h2 : k < (genL s n)[j]) : s k ≠ 0 := by
  intro hs
  obtain ⟨h3, e⟩ := genL_get h
  have hp := List.pairwise_iff_getElem.1 (sel_rise s 0 64)
  have hx := genL_mem (List.getElem_mem h)
  have hmem : k ∈ sel s 0 64 := sel_mem.2 ⟨by omega, by omega, hs⟩
  obtain ⟨m, hm, he⟩ := List.getElem_of_mem hmem
  have hmj : m < j := by
    rcases Nat.lt_or_ge m j with h | h
    · exact h
    · rcases Nat.eq_or_lt_of_le h with h | h
      · subst h
        omega
      · have := hp _ _ h3 hm h
        omega
  unfold ahead at h1
  rw [if_neg (by omega)] at h1
  have h4 : j - 1 < (genL s n).length := by omega
  obtain ⟨h5, e2⟩ := genL_get h4
  rw [show (genL s n).getD (j - 1) 0 = (genL s n)[j - 1] by simp [h4], e2] at h1
  rcases Nat.eq_or_lt_of_le (show m ≤ j - 1 by omega) with h | h
  · subst h
    omega
  · have := hp _ _ hm h5 h
    omega
theorem left_behind {s : Nat → Int} {n : Nat} (_h : n ≤ (sel s 0 64).length) : (sel (setL s (genL s n)) 0 64).length = (sel s 0 64).length - n := by
  have e : sel (setL s (genL s n)) 0 64 = (sel s 0 64).filter fun i => !decide (i ∈ genL s n) := by
    unfold sel
    rw [List.filter_filter]
    congr 1
    funext i
    unfold setL
    by_cases hi : i ∈ genL s n
    · simp [hi]
    · simp [hi]
  have hn : (sel s 0 64).Nodup := List.pairwise_iff_getElem.2 (fun i j hi hj hij => Nat.ne_of_lt (List.pairwise_iff_getElem.1 (sel_rise s 0 64) i j hi hj hij))
  rw [e]
  unfold genL
  generalize sel s 0 64 = l at *
  have e2 : (l.filter fun i => !decide (i ∈ l.take n)) = l.drop n := by
    conv => lhs; arg 2; rw [← List.take_append_drop n l]
    rw [List.filter_append]
    have ha : ((l.take n).filter fun i => !decide (i ∈ l.take n)) = [] := by
      rw [List.filter_eq_nil_iff]
      intro a ha
      simp [ha]
    have hb : ((l.drop n).filter fun i => !decide (i ∈ l.take n)) = l.drop n := by
      rw [List.filter_eq_self]
      intro a ha
      rw [← List.take_append_drop n l, List.nodup_append] at hn
      have := hn.2.2
      simp
      intro hc
      exact this a hc a ha rfl
    rw [ha, hb, List.nil_append]
  rw [e2, List.length_drop]
end Go.Proofs.Ythdjdknhjhkngaa
