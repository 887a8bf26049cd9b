/-
  What can be come to, plainly; rows of truths in a block.
-/
import Derived.Test.YtclkpahihfeacabCFx
namespace Go.Proofs.Ytclkpahihfeacab
open Go.RowKit
set_option linter.unusedVariables false
set_option linter.unusedSimpArgs false

theorem markL_append (r : List Bool) (a b : List Int) : markL r (a ++ b) = markL (markL r a) b := by
  induction a generalizing r with
  | nil => rfl
  | cons x t ih => exact ih _
theorem markL_take (r : List Bool) (xs : List Int) (j : Nat) (h : j < xs.length) : markL r (xs.take (j + 1)) = (markL r (xs.take j)).set xs[j].toNat true := by
  rw [List.take_succ_eq_append_getElem h, markL_append]
  rfl
theorem set_true_at (r : List Bool) (x i : Nat) (h : r.getD i false = true) : (r.set x true).getD i false = true := by
  by_cases e : x = i
  · subst e
    have hl : x < r.length := by
      rcases Nat.lt_or_ge x r.length with h1 | h1
      · exact h1
      · rw [List.getD_eq_getElem?_getD, List.getElem?_eq_none h1] at h; cases h
    simp [hl]
  · simpa [List.getD_eq_getElem?_getD, List.getElem?_set, e] using h
theorem set_other_at (r : List Bool) (x i : Nat) (h : x ≠ i) : (r.set x true).getD i false = r.getD i false := by
  simp [List.getD_eq_getElem?_getD, List.getElem?_set, h]
theorem markL_mono (r : List Bool) (l : List Int) (i : Nat) (h : r.getD i false = true) : (markL r l).getD i false = true := by
  induction l generalizing r with
  | nil => exact h
  | cons x t ih => exact ih _ (set_true_at r _ i h)
theorem markL_other (r : List Bool) (l : List Int) (i : Nat) (h : ∀ x ∈ l, x.toNat ≠ i) : (markL r l).getD i false = r.getD i false := by
  induction l generalizing r with
  | nil => rfl
  | cons x t ih =>
    rw [markL, ih _ (fun y hy => h y (List.mem_cons_of_mem _ hy)), set_other_at _ _ _ (h x (by simp))]
theorem markL_in (r : List Bool) (l : List Int) (x : Int) (hx : x ∈ l) (hl : x.toNat < r.length) : (markL r l).getD x.toNat false = true := by
  induction l generalizing r with
  | nil => cases hx
  | cons y t ih =>
    rcases List.mem_cons.1 hx with rfl | h
    · exact markL_mono (r.set x.toNat true) t _ (by simp [hl])
    · exact ih (r.set y.toNat true) h (by simpa using hl)
theorem reachTo_mono (L : List (Nat → Int)) (i k m : Nat) (hm : k ≤ m) (h : (reachTo L k).getD i false = true) : (reachTo L m).getD i false = true := by
  induction hm with
  | refl => exact h
  | step _ ih =>
    rw [reachTo, stepR]
    split
    · exact markL_mono _ _ _ ih
    · exact ih
theorem reachTo_back (L : List (Nat → Int)) (i m : Nat) (hf : ∀ k, k < L.length → ∀ x ∈ nextP (L.getD k zI) k, (k : Int) < x) : ∀ d, i + d ≤ L.length → (reachTo L (i + d)).getD i false = true → (reachTo L i).getD i false = true
  | 0, _, h => h
  | d + 1, hd, h => by
    refine reachTo_back L i m hf d (by omega) ?_
    rw [show i + (d + 1) = (i + d) + 1 by omega, reachTo, stepR] at h
    split at h
    · rw [markL_other] at h
      · exact h
      · intro x hx e
        have := hf (i + d) (by omega) x hx
        omega
    · exact h
/-- Where a place that is come to leads is come to. -/
theorem reach_next (L : List (Nat → Int)) (hf : ∀ k, k < L.length → ∀ x ∈ nextP (L.getD k zI) k, (k : Int) < x ∧ x ≤ (L.length : Int)) (a : Nat) (ha : a < L.length) (h : (reachP L).getD a false = true) (x : Int) (hx : x ∈ nextP (L.getD a zI) a) : (reachP L).getD x.toNat false = true := by
  have h1 : (reachTo L a).getD a false = true := by
    refine reachTo_back L a 0 (fun k hk x hx => (hf k hk x hx).1) (L.length - a) (by omega) ?_
    rw [show a + (L.length - a) = L.length by omega]
    exact h
  refine reachTo_mono L _ (a + 1) _ ha ?_
  rw [reachTo, stepR, if_pos h1]
  have h2 := hf a ha x hx
  exact markL_in _ _ _ hx (by rw [reachTo_len]; omega)
theorem reach_start (L : List (Nat → Int)) : (reachP L).getD 0 false = true := reachTo_mono L 0 0 _ (Nat.zero_le _) (by simp [reachTo])
theorem may_next {C : Cod} (h : mayP C = true) (k : Nat) (hk : k < C.ins.length) : ∀ x ∈ nextP C.ins[k] k, (k : Int) < x ∧ x ≤ (C.ins.length : Int) := by
  obtain ⟨_, _, h3⟩ := may_ins h k hk
  intro x hx
  unfold nextP at hx
  split at hx
  · simp only [List.mem_singleton] at hx
    subst hx
    exact h3 (.inl (by assumption))
  · split at hx
    · simp only [List.mem_cons, List.not_mem_nil, or_false] at hx
      rcases hx with rfl | rfl
      · exact h3 (.inr (by assumption))
      · omega
    · split at hx
      · cases hx
      · simp only [List.mem_singleton] at hx
        subst hx
        omega
theorem may_nextD {C : Cod} (h : mayP C = true) : ∀ k, k < C.ins.length → ∀ x ∈ nextP (C.ins.getD k zI) k, (k : Int) < x ∧ x ≤ (C.ins.length : Int) := by
  intro k hk
  rw [show C.ins.getD k zI = C.ins[k] by simp [hk]]
  exact may_next h k hk

/-- The cells of a row of truths. -/
def bcells (r : List Bool) : Array Value := (r.map Value.bool).toArray
theorem bcells_set (r : List Bool) (i : Nat) : (bcells r).setIfInBounds i (.bool true) = bcells (r.set i true) := by
  simp [bcells, List.map_set]
theorem bcells_at {r : List Bool} {i : Nat} (h : i < r.length) : (bcells r)[i]? = some (.bool (r.getD i false)) := by
  simp [bcells, h]
theorem bcells_no (r : List Bool) : ∀ u ∈ (bcells r).toList, ∀ n, u ≠ .int .i64 n := by
  intro u hu n
  simp [bcells] at hu
  rcases hu with ⟨_, rfl⟩ | ⟨_, rfl⟩ <;> simp
theorem bcells_made (n : Nat) : madeCells #[.bool false] n = bcells (List.replicate n false) := by
  apply Array.ext'
  rw [bcells, madeCells]
  simp
  have e : (fun x : Nat => [Value.bool false][x % 1]?.getD default) = fun _ => Value.bool false := by
    funext x
    rw [Nat.mod_one]
    rfl
  rw [e, List.map_const', List.length_range]
end Go.Proofs.Ytclkpahihfeacab
