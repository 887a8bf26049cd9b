/- Several texts in one. -/
import Derived.Test.YtglfhmlcmffoaaaGreatSGJ
import Derived.Test.YtglfhmlcmffoaaaGreatVPlJ
import Derived.Test.YtglfhmlcmffoaaaGreatVRx
import Derived.Test.YtglfhmlcmffoaaaGreatLemJ
import Derived.OrdersHeld
import Derived.Deep.RegionHeld
/-
  What can be come to, plainly; rows of truths in a block.
-/
namespace Go.Proofs.YtglfhmlcmffoaaaGreat
open Go.RowKit
set_option linter.unusedVariables false
set_option linter.unusedSimpArgs false

theorem markL_append (r : List Bool) (a b : List Int) : markL r (a ++ b) = markL (markL r a) b := by
  induction a generalizing r with
  | nil => rfl
  | cons x t ih => exact ih _
theorem markL_take (r : List Bool) (xs : List Int) (j : Nat) (h : j < xs.length) : markL r (xs.take (j + 1)) = (markL r (xs.take j)).set xs[j].toNat true := by
  rw [List.take_succ_eq_append_getElem h, markL_append]
  rfl
theorem set_true_at (r : List Bool) (x i : Nat) (h : r.getD i false = true) : (r.set x true).getD i false = true := by
  by_cases e : x = i
  · subst e
    have hl : x < r.length := by
      rcases Nat.lt_or_ge x r.length with h1 | h1
      · exact h1
      · rw [List.getD_eq_getElem?_getD, List.getElem?_eq_none h1] at h; cases h
    simp [hl]
  · simpa [List.getD_eq_getElem?_getD, List.getElem?_set, e] using h
theorem set_other_at (r : List Bool) (x i : Nat) (h : x ≠ i) : (r.set x true).getD i false = r.getD i false := by
  simp [List.getD_eq_getElem?_getD, List.getElem?_set, h]
theorem markL_mono (r : List Bool) (l : List Int) (i : Nat) (h : r.getD i false = true) : (markL r l).getD i false = true := by
  induction l generalizing r with
  | nil => exact h
  | cons x t ih => exact ih _ (set_true_at r _ i h)
theorem markL_other (r : List Bool) (l : List Int) (i : Nat) (h : ∀ x ∈ l, x.toNat ≠ i) : (markL r l).getD i false = r.getD i false := by
  induction l generalizing r with
  | nil => rfl
  | cons x t ih =>
    rw [markL, ih _ (fun y hy => h y (List.mem_cons_of_mem _ hy)), set_other_at _ _ _ (h x (by simp))]
theorem markL_in (r : List Bool) (l : List Int) (x : Int) (hx : x ∈ l) (hl : x.toNat < r.length) : (markL r l).getD x.toNat false = true := by
  induction l generalizing r with
  | nil => cases hx
  | cons y t ih =>
    rcases List.mem_cons.1 hx with rfl | h
    · exact markL_mono (r.set x.toNat true) t _ (by simp [hl])
    · exact ih (r.set y.toNat true) h (by simpa using hl)
theorem reachTo_mono (L : List (Nat → Int)) (i k m : Nat) (hm : k ≤ m) (h : (reachTo L k).getD i false = true) : (reachTo L m).getD i false = true := by
  induction hm with
  | refl => exact h
  | step _ ih =>
    rw [reachTo, stepR]
    split
    · exact markL_mono _ _ _ ih
    · exact ih
theorem reachTo_back (L : List (Nat → Int)) (i m : Nat) (hf : ∀ k, k < L.length → ∀ x ∈ nextP (L.getD k zI) k, (k : Int) < x) : ∀ d, i + d ≤ L.length → (reachTo L (i + d)).getD i false = true → (reachTo L i).getD i false = true
  | 0, _, h => h
  | d + 1, hd, h => by
    refine reachTo_back L i m hf d (by omega) ?_
    rw [show i + (d + 1) = (i + d) + 1 by omega, reachTo, stepR] at h
    split at h
    · rw [markL_other] at h
      · exact h
      · intro x hx e
        have := hf (i + d) (by omega) x hx
        omega
    · exact h
/-- Where a place that is come to leads is come to. -/
theorem reach_next (L : List (Nat → Int)) (hf : ∀ k, k < L.length → ∀ x ∈ nextP (L.getD k zI) k, (k : Int) < x ∧ x ≤ (L.length : Int)) (a : Nat) (ha : a < L.length) (h : (reachP L).getD a false = true) (x : Int) (hx : x ∈ nextP (L.getD a zI) a) : (reachP L).getD x.toNat false = true := by
  have h1 : (reachTo L a).getD a false = true := by
    refine reachTo_back L a 0 (fun k hk x hx => (hf k hk x hx).1) (L.length - a) (by omega) ?_
    rw [show a + (L.length - a) = L.length by omega]
    exact h
  refine reachTo_mono L _ (a + 1) _ ha ?_
  rw [reachTo, stepR, if_pos h1]
  have h2 := hf a ha x hx
  exact markL_in _ _ _ hx (by rw [reachTo_len]; omega)
theorem reach_start (L : List (Nat → Int)) : (reachP L).getD 0 false = true := reachTo_mono L 0 0 _ (Nat.zero_le _) (by simp [reachTo])
theorem may_next {C : Cod} (h : mayP C = true) (k : Nat) (hk : k < C.ins.length) : ∀ x ∈ nextP C.ins[k] k, (k : Int) < x ∧ x ≤ (C.ins.length : Int) := by
  obtain ⟨_, _, h3⟩ := may_ins h k hk
  intro x hx
  unfold nextP at hx
  split at hx
  · simp only [List.mem_singleton] at hx
    subst hx
    exact h3 (.inl (by assumption))
  · split at hx
    · simp only [List.mem_cons, List.not_mem_nil, or_false] at hx
      rcases hx with rfl | rfl
      · exact h3 (.inr (by assumption))
      · omega
    · split at hx
      · cases hx
      · simp only [List.mem_singleton] at hx
        subst hx
        omega
theorem may_nextD {C : Cod} (h : mayP C = true) : ∀ k, k < C.ins.length → ∀ x ∈ nextP (C.ins.getD k zI) k, (k : Int) < x ∧ x ≤ (C.ins.length : Int) := by
  intro k hk
  rw [show C.ins.getD k zI = C.ins[k] by simp [hk]]
  exact may_next h k hk

/-- The cells of a row of truths. -/
def bcells (r : List Bool) : Array Value := (r.map Value.bool).toArray
theorem bcells_set (r : List Bool) (i : Nat) : (bcells r).setIfInBounds i (.bool true) = bcells (r.set i true) := by
  simp [bcells, List.map_set]
theorem bcells_at {r : List Bool} {i : Nat} (h : i < r.length) : (bcells r)[i]? = some (.bool (r.getD i false)) := by
  simp [bcells, h]
theorem bcells_no (r : List Bool) : ∀ u ∈ (bcells r).toList, ∀ n, u ≠ .int .i64 n := by
  intro u hu n
  simp [bcells] at hu
  rcases hu with ⟨_, rfl⟩ | ⟨_, rfl⟩ <;> simp
theorem bcells_made (n : Nat) : madeCells #[.bool false] n = bcells (List.replicate n false) := by
  apply Array.ext'
  rw [bcells, madeCells]
  simp
  have e : (fun x : Nat => [Value.bool false][x % 1]?.getD default) = fun _ => Value.bool false := by
    funext x
    rw [Nat.mod_one]
    rfl
  rw [e, List.map_const', List.length_range]
end Go.Proofs.YtglfhmlcmffoaaaGreat

/-
  Runs of codes, plainly: their places rise and are come to; a register more changes nothing; what is not loaded is no matter.
-/
namespace Go.Proofs.YtglfhmlcmffoaaaGreat
open Go.RowKit
set_option linter.unusedVariables false
set_option linter.unusedSimpArgs false

section
variable {L : List (Nat → Int)} {S S' : Sur} {G G' : List (Img × Value × List Ent)}
theorem runF_stop (f k : Nat) (s : St) (h : ¬ k < L.length) : runF L S G f k s = (s, []) := by
  cases f with
  | zero => rfl
  | succ f => rw [runF, dif_neg h]
theorem storS_dc (s : St) (I : Nat → Int) : (storS s I).dc = s.dc := by
  unfold storS
  repeat' split
  all_goals rfl
theorem stepS_dc (s : St) (I : Nat → Int) : (stepS S G s I).dc = s.dc := by
  unfold stepS
  split
  · exact storS_dc s I
  · rfl
/-- Where the run goes from a place: it ends there, or goes on at one of the next ones. -/
theorem runF_next (hf : ∀ k (h : k < L.length), ∀ x ∈ nextP L[k] k, (k : Int) < x ∧ x ≤ (L.length : Int)) (f k : Nat) (s : St) (h : k < L.length) :
    (L[k] 0 = 12 ∧ runF L S G (f + 1) k s = (discS s, [k])) ∨
    (L[k] 0 ≠ 12 ∧ ∃ k' s', runF L S G (f + 1) k s = ((runF L S G f k' s').1, k :: (runF L S G f k' s').2) ∧ ((k' : Nat) : Int) ∈ nextP L[k] k ∧ s'.dc = s.dc) := by
  have hn := hf k h
  rw [runF, dif_pos h]
  unfold nextP at hn ⊢
  by_cases h10 : L[k] 0 = 10
  · rw [if_pos h10] at hn
    rw [if_pos h10]
    have := hn (L[k] 5) (by simp)
    refine .inr ⟨by omega, (L[k] 5).toNat, s, rfl, ?_, rfl⟩
    rw [if_pos h10, List.mem_singleton]
    omega
  rw [if_neg h10] at hn
  rw [if_neg h10]
  by_cases h11 : L[k] 0 = 11
  · rw [if_pos h11] at hn
    rw [if_pos h11]
    have := hn (L[k] 5) (by simp)
    split
    · refine .inr ⟨by omega, (L[k] 5).toNat, s, rfl, ?_, rfl⟩
      rw [List.mem_cons]
      exact .inl (by omega)
    · refine .inr ⟨by omega, k + 1, s, rfl, ?_, rfl⟩
      simp
  rw [if_neg h11]
  by_cases h12 : L[k] 0 = 12
  · rw [if_pos h12]
    exact .inl ⟨h12, rfl⟩
  rw [if_neg h12]
  refine .inr ⟨h12, k + 1, stepS S G s L[k], rfl, ?_, stepS_dc s _⟩
  rw [if_neg h10, if_neg h11, if_neg h12]
  simp
/-- The places rise. -/
theorem runF_places (hf : ∀ k (h : k < L.length), ∀ x ∈ nextP L[k] k, (k : Int) < x ∧ x ≤ (L.length : Int)) : ∀ (f k : Nat) (s : St),
    (runF L S G f k s).2.Pairwise (· < ·) ∧ (∀ x ∈ (runF L S G f k s).2, k ≤ x ∧ x < L.length) ∧ (runF L S G f k s).2.length ≤ L.length - k
  | 0, k, s => by simp [runF]
  | f + 1, k, s => by
    by_cases h : k < L.length
    · rcases runF_next (S := S) (G := G) hf f k s h with ⟨_, e⟩ | ⟨_, k', s', e, hx, _⟩
      · rw [e]
        refine ⟨List.pairwise_singleton _ _, fun x hx => ?_, by simp; omega⟩
        rw [List.mem_singleton] at hx
        omega
      · obtain ⟨i1, i2, i3⟩ := runF_places hf f k' s'
        have h1 := hf k h _ hx
        rw [e]
        refine ⟨List.pairwise_cons.2 ⟨fun x hx => ?_, i1⟩, fun x hx => ?_, by simp only [List.length_cons]; omega⟩
        · have := (i2 x hx).1
          omega
        · rcases List.mem_cons.1 hx with rfl | hx
          · omega
          · have := i2 x hx
            omega
    · rw [runF_stop _ _ _ h]
      simp
/-- The places are come to. -/
theorem runF_reach (hf : ∀ k (h : k < L.length), ∀ x ∈ nextP L[k] k, (k : Int) < x ∧ x ≤ (L.length : Int)) : ∀ (f k : Nat) (s : St), (reachP L).getD k false = true →
    ∀ x ∈ (runF L S G f k s).2, (reachP L).getD x false = true
  | 0, k, s, _ => by simp [runF]
  | f + 1, k, s, hr => by
    by_cases h : k < L.length
    · rcases runF_next (S := S) (G := G) hf f k s h with ⟨_, e⟩ | ⟨_, k', s', e, hx, _⟩
      · rw [e]
        intro x hx
        rw [List.mem_singleton] at hx
        rw [hx]
        exact hr
      · have hr' : (reachP L).getD k' false = true := by
          have := reach_next L (fun k hk x hx => by rw [show L.getD k zI = L[k] by simp [hk]] at hx; exact hf k hk x hx) k h hr k' (by rw [show L.getD k zI = L[k] by simp [h]]; exact hx)
          rwa [Int.toNat_natCast] at this
        rw [e]
        intro x hx
        rcases List.mem_cons.1 hx with rfl | hx
        · exact hr
        · exact runF_reach hf f k' s' hr' x hx
    · rw [runF_stop _ _ _ h]
      simp
/-- What ends a run is told by its last place. -/
def endB (L : List (Nat → Int)) : Option Nat → Bool
  | none => false
  | some x => decide (L.getD x zI 0 = 12)
theorem runF_dc (hf : ∀ k (h : k < L.length), ∀ x ∈ nextP L[k] k, (k : Int) < x ∧ x ≤ (L.length : Int)) : ∀ (f k : Nat) (s : St), s.dc = false →
    (runF L S G f k s).1.dc = endB L (runF L S G f k s).2.getLast?
  | 0, k, s, hd => by simpa [runF, endB] using hd
  | f + 1, k, s, hd => by
    by_cases h : k < L.length
    · have hk : L.getD k zI = L[k] := by simp [h]
      rcases runF_next (S := S) (G := G) hf f k s h with ⟨h12, e⟩ | ⟨h12, k', s', e, hx, hd'⟩
      · rw [e]
        simp [endB, discS, h, h12]
      · have ih := runF_dc hf f k' s' (hd'.trans hd)
        rw [e]
        show (runF L S G f k' s').1.dc = endB L (k :: (runF L S G f k' s').2).getLast?
        rw [ih]
        cases hc : (runF L S G f k' s').2 with
        | nil => simp [endB, h, h12]
        | cons y r => rw [List.getLast?_cons_cons]
    · rw [runF_stop _ _ _ h]
      simpa [endB] using hd

theorem storS_V (s : St) (I : Nat → Int) : (storS s I).V.length = s.V.length := by
  unfold storS
  repeat' split
  all_goals simp
theorem stepS_V (s : St) (I : Nat → Int) : (stepS S G s I).V.length = s.V.length := by
  unfold stepS
  split
  · exact storS_V s I
  · rfl
theorem runF_V : ∀ (f k : Nat) (s : St), (runF L S G f k s).1.V.length ≤ s.V.length
  | 0, k, s => Nat.le_refl _
  | f + 1, k, s => by
    by_cases h : k < L.length
    · rw [runF, dif_pos h]
      split
      · exact runF_V f _ s
      · split
        · split
          · exact runF_V f _ s
          · exact runF_V f _ s
        · split
          · exact Nat.zero_le _
          · have := runF_V f (k + 1) (stepS S G s L[k])
            rw [stepS_V] at this
            exact this
    · rw [runF_stop _ _ _ h]
      exact Nat.le_refl _

/-- A register more. -/
def morS (s : St) : St := { s with R := s.R ++ [nul] }
theorem reg_app (R : List (Nat → Int)) (x : Int) : reg (R ++ [nul]) x = reg R x := by
  unfold reg
  rw [List.getD_eq_getElem?_getD, List.getD_eq_getElem?_getD, List.getElem?_append]
  split
  · rfl
  · rw [List.getElem?_eq_none (l := R) (by omega)]
    cases x.toNat - R.length with
    | zero => rfl
    | succ n => simp
theorem valP_app (R : List (Nat → Int)) (I : Nat → Int) : valP S G (R ++ [nul]) I = valP S G R I := by
  unfold valP
  simp only [reg_app]
theorem storS_app (s : St) (I : Nat → Int) : storS (morS s) I = morS (storS s I) := by
  unfold storS morS
  simp only [reg_app]
  repeat' split
  all_goals rfl
theorem stepS_app (s : St) (I : Nat → Int) (h : I 0 ≠ 4 → (I 4).toNat < s.R.length) : stepS S G (morS s) I = morS (stepS S G s I) := by
  unfold stepS
  split
  · exact storS_app s I
  · rename_i h4
    unfold morS
    simp only [valP_app]
    rw [List.set_append_left _ _ (h h4)]
theorem storS_len (s : St) (I : Nat → Int) : (storS s I).R = s.R := by
  unfold storS
  repeat' split
  all_goals rfl
theorem stepS_len (s : St) (I : Nat → Int) : (stepS S G s I).R.length = s.R.length := by
  unfold stepS
  split
  · rw [storS_len]
  · simp
theorem runF_app {n : Nat} (hd : ∀ k (h : k < L.length), L[k] 0 ≠ 4 → L[k] 0 ≠ 10 → L[k] 0 ≠ 11 → L[k] 0 ≠ 12 → (L[k] 4).toNat < n) : ∀ (f k : Nat) (s : St), s.R.length = n →
    runF L S G f k (morS s) = (morS (runF L S G f k s).1, (runF L S G f k s).2)
  | 0, k, s, _ => rfl
  | f + 1, k, s, hs => by
    by_cases h : k < L.length
    · rw [runF, dif_pos h]
      conv => rhs; rw [runF, dif_pos h]
      by_cases h10 : L[k] 0 = 10
      · simp only [if_pos h10, runF_app hd f _ s hs]
      by_cases h11 : L[k] 0 = 11
      · have e : reg (morS s).R (L[k] 6) 0 = reg s.R (L[k] 6) 0 := by unfold morS; rw [reg_app]
        simp only [if_neg h10, if_pos h11, e]
        split
        · simp only [runF_app hd f _ s hs]
        · simp only [runF_app hd f _ s hs]
      by_cases h12 : L[k] 0 = 12
      · simp only [if_neg h10, if_neg h11, if_pos h12]
        rfl
      simp only [if_neg h10, if_neg h11, if_neg h12, stepS_app s L[k] (fun h4 => by rw [hs]; exact hd k h h4 h10 h11 h12), runF_app hd f _ (stepS S G s L[k]) (by rw [stepS_len, hs])]
    · rw [runF_stop _ _ _ h, runF_stop _ _ _ h]

/-- What is not loaded is no matter. -/
theorem valP_agree (R : List (Nat → Int)) (I : Nat → Int) (h0 : I 0 = 1 ∨ I 0 = 2 ∨ I 0 = 3 ∨ I 0 = 4 ∨ I 0 = 5 ∨ I 0 = 6 ∨ I 0 = 7 ∨ I 0 = 8 ∨ I 0 = 9 ∨ I 0 = 10 ∨ I 0 = 11 ∨ I 0 = 12) (h4 : I 0 ≠ 4 ∧ I 0 ≠ 10 ∧ I 0 ≠ 11 ∧ I 0 ≠ 12) (h3 : I 0 = 3 → loadP S' I = loadP S I) (h9 : I 0 = 9 → ∀ a b, texI G' a b = texI G a b) : valP S' G' R I = valP S G R I := by
  unfold valP
  by_cases e3 : I 0 = 3
  · rw [if_neg (by omega), if_neg (by omega), if_pos e3, if_neg (by omega), if_neg (by omega), if_pos e3, h3 e3]
  by_cases e9 : I 0 = 9
  · rw [if_neg (by omega), if_neg (by omega), if_neg (by omega), if_neg (by omega), if_neg (by omega), if_neg (by omega), if_neg (by omega)]
    rw [if_neg (by omega), if_neg (by omega), if_neg (by omega), if_neg (by omega), if_neg (by omega), if_neg (by omega), if_neg (by omega), h9 e9]
  rw [if_neg e3, if_neg e3]
  repeat' split
  all_goals first | rfl | (exfalso; omega)
theorem runF_agree (ho : ∀ k (h : k < L.length), L[k] 0 = 1 ∨ L[k] 0 = 2 ∨ L[k] 0 = 3 ∨ L[k] 0 = 4 ∨ L[k] 0 = 5 ∨ L[k] 0 = 6 ∨ L[k] 0 = 7 ∨ L[k] 0 = 8 ∨ L[k] 0 = 9 ∨ L[k] 0 = 10 ∨ L[k] 0 = 11 ∨ L[k] 0 = 12) : ∀ (f k : Nat) (s : St),
    (∀ x ∈ (runF L S G f k s).2, (L.getD x zI 0 = 3 → loadP S' (L.getD x zI) = loadP S (L.getD x zI)) ∧ (L.getD x zI 0 = 9 → ∀ a b, texI G' a b = texI G a b)) → runF L S' G' f k s = runF L S G f k s
  | 0, k, s, _ => rfl
  | f + 1, k, s, hx => by
    by_cases h : k < L.length
    · rw [runF, dif_pos h] at hx
      rw [runF, dif_pos h]
      conv => rhs; rw [runF, dif_pos h]
      by_cases h10 : L[k] 0 = 10
      · simp only [if_pos h10] at hx ⊢
        rw [runF_agree ho f _ s (fun x h => hx x (List.mem_cons_of_mem _ h))]
      simp only [if_neg h10] at hx ⊢
      by_cases h11 : L[k] 0 = 11
      · simp only [if_pos h11] at hx ⊢
        split
        · rename_i e
          rw [if_pos e] at hx
          rw [runF_agree ho f _ s (fun x h => hx x (List.mem_cons_of_mem _ h))]
        · rename_i e
          rw [if_neg e] at hx
          rw [runF_agree ho f _ s (fun x h => hx x (List.mem_cons_of_mem _ h))]
      simp only [if_neg h11] at hx ⊢
      by_cases h12 : L[k] 0 = 12
      · simp only [if_pos h12]
      simp only [if_neg h12] at hx ⊢
      have hk : L.getD k zI = L[k] := by simp [h]
      have h0 := hx k (by simp)
      rw [hk] at h0
      have e : stepS S' G' s L[k] = stepS S G s L[k] := by
        unfold stepS
        by_cases h4 : L[k] 0 = 4
        · rw [if_pos h4, if_pos h4]
        · rw [if_neg h4, if_neg h4, valP_agree s.R L[k] (ho k h) ⟨h4, h10, h11, h12⟩ h0.1 h0.2]
      rw [e, runF_agree ho f _ _ (fun x h => hx x (List.mem_cons_of_mem _ h))]
    · rw [runF_stop _ _ _ h, runF_stop _ _ _ h]
end

/-- A code with a register more. -/
def morC (C : Cod) : Cod := ⟨C.stage, C.regs + 1, C.attr, C.unif, C.vary, C.ins⟩
theorem inB_more {x n : Int} (h : inB x n = true) : inB x (n + 1) = true := by
  rw [inB_iff] at h ⊢
  omega
theorem ins_more {C : Cod} {n k : Nat} {I : Nat → Int} (h : insB C n k I = true) : insB (morC C) n k I = true := by
  simp only [insB, rgsB, Bool.and_eq_true, List.all_eq_true, Bool.or_eq_true] at h ⊢
  obtain ⟨h1, ⟨h2, h3⟩, h4⟩ := h
  refine ⟨h1, ⟨fun r hr => inB_more (h2 r hr), ?_⟩, h4⟩
  rcases h3 with h3 | h3
  · exact .inl h3
  · exact .inr (inB_more h3)
theorem may_more {C : Cod} (h : mayP C = true) (hr : C.regs < 1024) : mayP (morC C) = true := by
  simp only [mayP, Bool.and_eq_true] at h ⊢
  obtain ⟨h1, h2, h3⟩ := h
  refine ⟨?_, h2, ?_⟩
  · unfold headB at h1 ⊢
    show (if C.stage = 1 then inB (C.regs + 1) 1025 && (inB C.attr 9 && (inB C.unif 33 && inB C.vary 5)) else if C.stage = 2 then inB (C.regs + 1) 1025 && (inB C.attr 1 && (inB C.unif 33 && inB C.vary 5)) else false) = true
    split at h1
    · rename_i e
      rw [if_pos e]
      simp only [Bool.and_eq_true, inB_iff] at h1 ⊢
      omega
    · rename_i e
      rw [if_neg e]
      split at h1
      · rename_i e
        rw [if_pos e]
        simp only [Bool.and_eq_true, inB_iff] at h1 ⊢
        omega
      · cases h1
  · unfold mayTo at h3 ⊢
    rw [List.all_eq_true] at h3 ⊢
    exact fun k hk => ins_more (h3 k hk)
theorem wr_of {o : Int} (h : o = 1 ∨ o = 2 ∨ o = 3 ∨ o = 4 ∨ o = 5 ∨ o = 6 ∨ o = 7 ∨ o = 8 ∨ o = 9 ∨ o = 10 ∨ o = 11 ∨ o = 12) (h4 : o ≠ 4) (h10 : o ≠ 10) (h11 : o ≠ 11) (h12 : o ≠ 12) : wrB o = true := by
  rcases h with rfl | rfl | rfl | rfl | rfl | rfl | rfl | rfl | rfl | rfl | rfl | rfl <;> first | rfl | (exfalso; omega)
/-- A register more changes nothing of what comes out. -/
theorem runP_more {C : Cod} (h : mayP C = true) (S : Sur) (G : List (Img × Value × List Ent)) : runP (morC C) S G = (morS (runP C S G).1, (runP C S G).2) := by
  have hr := (may_regs h).2
  unfold runP
  have e : st0 (morC C) = morS (st0 C) := by
    unfold st0 morS morC
    simp only
    rw [show (C.regs + 1).toNat = C.regs.toNat + 1 by omega, List.replicate_succ']
  rw [e]
  have hd : ∀ k (hk : k < C.ins.length), C.ins[k] 0 ≠ 4 → C.ins[k] 0 ≠ 10 → C.ins[k] 0 ≠ 11 → C.ins[k] 0 ≠ 12 → (C.ins[k] 4).toNat < C.regs.toNat := fun k hk h4 h10 h11 h12 => by
    have := (may_ask h k hk).dst (wr_of (may_ask h k hk).op h4 h10 h11 h12)
    omega
  exact runF_app (n := C.regs.toNat) hd C.ins.length 0 (st0 C) (by simp [st0])
theorem runP_V {C : Cod} (h : mayP C = true) (S : Sur) (G : List (Img × Value × List Ent)) : (runP C S G).1.V.length ≤ 4 := by
  have h1 := runF_V (L := C.ins) (S := S) (G := G) C.ins.length 0 (st0 C)
  have h2 : (st0 C).V.length ≤ 4 := by
    unfold st0
    simp only
    split
    · rename_i e
      simp only [mayP, Bool.and_eq_true] at h
      have h3 := h.1
      unfold headB at h3
      rw [if_pos e] at h3
      simp only [Bool.and_eq_true, inB_iff] at h3
      simp
      omega
    · simp
  unfold runP
  omega
/-- The places of a run of a code that may be rise, are come to, and the last one tells whether it was discarded. -/
theorem runP_facts {C : Cod} (h : mayP C = true) (S : Sur) (G : List (Img × Value × List Ent)) :
    (runP C S G).2.Pairwise (· < ·) ∧ (∀ x ∈ (runP C S G).2, x < C.ins.length ∧ (reachP C.ins).getD x false = true) ∧ (runP C S G).2.length ≤ C.ins.length ∧ (runP C S G).1.dc = endB C.ins (runP C S G).2.getLast? := by
  have hf := fun k hk => may_next h k hk
  obtain ⟨h1, h2, h3⟩ := runF_places (S := S) (G := G) hf C.ins.length 0 (st0 C)
  refine ⟨h1, fun x hx => ⟨(h2 x hx).2, runF_reach hf _ _ _ (reach_start _) x hx⟩, by unfold runP; omega, runF_dc hf _ _ _ rfl⟩
end Go.Proofs.YtglfhmlcmffoaaaGreat

/-
  The machine of registers: Trace.
-/
namespace Go.Proofs.YtglfhmlcmffoaaaGreat
open Go.RowKit
set_option linter.unusedVariables false
set_option linter.unusedSimpArgs false

/-- A place's cell. -/
def nEnc (k : Nat) : List Value := [.int .i64 (k : Int)]
theorem nEnc_len (k : Nat) : (nEnc k).length = 1 := rfl
theorem infoN : (Tryz.prog.info? 3).map (fun i => (i.zero, i.size, i.bytes)) = some (some (.int .i64 0), 1, 8) := by kernel_rfl
/-- What Trace has been told so far, in memory. -/
def TrAt (w0 : World) (N pb mb : Nat) (vr vy : Value) (w : World) (tr : List Nat) : Prop :=
  ∃ v, Blk w pb #[v] 40 ∧ GO nEnc 3 1 w w0.heap.size v tr ∧ (∀ g, v.ownBlock = some g → g ≠ pb ∧ ¬ MB mb vr vy g) ∧ N ≤ w.heap.size
theorem run_trace1 (w : World) (k : Nat) (pb : Nat) (ao : Option Addr) (cap : Nat) (w0 : World) (tr : List Nat) (hB : Blk w pb #[.slice ao tr.length cap] 40) (hG : GO nEnc 3 1 w w0.heap.size (.slice ao tr.length cap) tr) (hne : ∀ g, (Value.slice ao tr.length cap).ownBlock = some g → g ≠ pb) (hl : tr.length ≤ 5000) (hx : Ext w0 w) :
    Calls Tryz.prog 29 #[.int .i64 (k : Int), .pointer (some ⟨pb, 0, none⟩)] w fun e w' => e = .returned (.tuple #[]) ∧ ∃ ao' cap' w1, GO nEnc 3 1 w1 w0.heap.size (.slice ao' (tr ++ [k]).length cap') (tr ++ [k]) ∧ Blk w1 pb #[.slice ao tr.length cap] 40 ∧ w' = w1.setCell ⟨pb, 0, none⟩ (.slice ao' (tr ++ [k]).length cap') ∧ (w.alloc (.cells #[.int .i64 (k : Int)] 3)).grownBy w1 (Value.slice ao tr.length cap).ownBlock ∧ ∀ b, (Value.slice ao' (tr ++ [k]).length cap').ownBlock = some b → (Value.slice ao tr.length cap).ownBlock = some b ∨ w.heap.size < b := by
  have HB := hide hB
  have HG := hide (GO.ext hG ((Ext.refl w).alloc (.cells #[.int .i64 (k : Int)] 3)))
  have HN := hide hne
  have HE := hide (Blk.new w #[.int .i64 (k : Int)] 3)
  have hsz : w0.heap.size ≤ (w.alloc (.cells #[.int .i64 (k : Int)] 3)).heap.size := by have := hx.size; simp; omega
  have c0 := hB.cell (i := 0) (v := .slice ao tr.length cap) rfl
  clear hB hG hne hx
  obtain ⟨g0, hg0⟩ : ∃ g, w.heap.size = g := ⟨_, rfl⟩
  have HG0 := hide hg0
  rw [hg0] at HE
  clear hg0
  go_enter Tryz.func29, Tryz.ntmps29
  go_wp2_with (refine wpList_append_G infoN Tryz.underlying40 rfl (by decide) (by decide) rfl (.tmp 3) (.tmp 5) rfl w0.heap.size _ tr k rfl (unhide HG) g0 1 (by rw [← unhide HG0]; rfl) 3 (unhide HE) (nEnc_len k) (by simp [nEnc, Value.oneCell']) (by omega) hsz ?_)
  intro ao' cap' Nn w1 eN hN hg hloc
  have hB1 : Blk w1 pb #[.slice ao tr.length cap] 40 := by
    refine (hg.block pb ((unhide HB).alloc _).lt ?_).trans ((unhide HB).alloc _)
    intro e
    exact unhide HN pb e.symm rfl
  have c1 := hB1.cell (i := 0) (v := .slice ao tr.length cap) rfl
  have f1 := hB1.free 0
  have H := hide (And.intro hN (And.intro hB1 (And.intro hg hloc)))
  have HEN := hide eN
  clear hN hB1 hg hloc eN c0
  go_wp2
  refine bodyPost_end (v := .tuple #[]) (by simp [results, Tryz.results29, go_sem]) rfl ⟨rfl, ao', cap', w1, ?_⟩
  obtain ⟨h1, h2, h3, h4⟩ := unhide H
  have e9 := unhide HEN
  subst e9
  refine ⟨h1, h2, rfl, h3, fun b hb => ?_⟩
  rcases h4 b hb with h | h
  · exact .inl h
  · refine .inr ?_
    omega
theorem trace1_sees {w0 : World} {N pb mb : Nat} {vr vy : Value} (hp : w0.heap.size ≤ pb) (hpm : ¬ MB mb vr vy pb) (hM : ∀ b, MB mb vr vy b → b < N) : Sees Tryz.prog w0 mb vr vy 29 #[.pointer (some ⟨pb, 0, none⟩)] (TrAt w0 N pb mb vr vy) where
  enters := enters_of Tryz.func29 (by kernel_rfl) rfl
  keep := fun w w' tr b ⟨v, h1, h2, h3, h4⟩ hg hb => ⟨v, h1.grown hg (fun e => hpm (e ▸ hb)), GO.keep h2 hg (fun g hg2 e => (h3 g hg2).2 (e ▸ hb)), h3, Nat.le_trans h4 hg.size⟩
  ext := fun w w' tr ⟨v, h1, h2, h3, h4⟩ hx => ⟨v, h1.ext hx, GO.ext h2 hx, h3, Nat.le_trans h4 hx.size⟩
  see := fun k w tr ⟨v, h1, h2, h3, h4⟩ hl hk hx => by
    obtain ⟨ao, cap, rfl, _⟩ := GO.shape h2
    refine (run_trace1 w k pb ao cap w0 tr h1 h2 (fun g hg => (h3 g hg).1) hl hx).mono ?_
    rintro e w' ⟨rfl, ao', cap', w1, hG, hB, rfl, hg, hloc⟩
    have hpw := h1.lt
    have hne : ∀ g, (Value.slice ao' (tr ++ [k]).length cap').ownBlock = some g → g ≠ pb ∧ ¬ MB mb vr vy g := fun g hg2 => by
      rcases hloc g hg2 with h | h
      · exact h3 g h
      · exact ⟨by omega, fun hm => by have := hM g hm; omega⟩
    have hs1 : w.heap.size ≤ w1.heap.size := Nat.le_trans ((Ext.refl w).alloc _).size hg.size
    refine ⟨rfl, ⟨_, hB.set 0 _, GO.keep hG (grownBy_set w1 pb 0 _) (fun b hb => (hne b hb).1), hne, by simp; omega⟩, ?_⟩
    have ho1 : Out (NB w0 mb vr vy) w (w.alloc (.cells #[.int .i64 (k : Int)] 3)) := Out.of_ext ((Ext.refl w).alloc _)
    have ho2 : Out (NB w0 mb vr vy) (w.alloc (.cells #[.int .i64 (k : Int)] 3)) w1 := Out.of_grown hg (fun b hb => ⟨(GO.lt h2 b hb).1, (h3 b hb).2⟩)
    have ho3 : Out (NB w0 mb vr vy) w1 (w1.setCell ⟨pb, 0, none⟩ (.slice ao' (tr ++ [k]).length cap')) := Out.of_grown (grownBy_set w1 pb 0 _) (fun b hb => by cases hb; exact ⟨hp, hpm⟩)
    exact (ho1.trans ho2 (fun _ h => .inl h)).trans ho3 (fun _ h => .inl h)

/-- What Trace answers. -/
def TrcQ (C : Cod) (S : Sur) (G : List (Img × Value × List Ent)) (w : World) (e : Ending) (w' : World) : Prop :=
  (refI C S.att.length S.uni.length S.vry.length ≠ 0 ∧ e = .returned (.tuple #[.slice none 0 0, .int .i64 (refI C S.att.length S.uni.length S.vry.length)]) ∧ Ext w w') ∨
  (refI C S.att.length S.uni.length S.vry.length = 0 ∧ ∃ ao cap, e = .returned (.tuple #[.slice ao (runP C S G).2.length cap, .int .i64 0]) ∧ GO nEnc 3 1 w' w.heap.size (.slice ao (runP C S G).2.length cap) (runP C S G).2 ∧ Ext w w')

set_option maxRecDepth 10000 in
set_option maxHeartbeats 4000000 in
theorem trace_any (C : Cod) (v : Value) (E : EnvC) (S : Sur) (G : List (Img × Value × List Ent)) (w : World) (hI : IR w v C.ins) (hok : ∀ I ∈ C.ins, OkI I) (hS : SurAt w E S) (hG : GR w E.vi G) (h32 : Sur32 S) :
    Calls Tryz.prog 13 #[.agg #[.int .i64 (C).stage, v, .int .i64 (C).regs, .int .i64 (C).attr, .int .i64 (C).unif, .int .i64 (C).vary], .agg (envA E)] w fun e w' => TrcQ C S G w e w' := by
  have hX : Ext w ((w.alloc (.cells #[.int .i64 (C).stage, v, .int .i64 (C).regs, .int .i64 (C).attr, .int .i64 (C).unif, .int .i64 (C).vary] 24)).alloc (.cells (envA E) 31)) := ((Ext.refl w).alloc _).alloc _
  have hC : Blk ((w.alloc (.cells #[.int .i64 (C).stage, v, .int .i64 (C).regs, .int .i64 (C).attr, .int .i64 (C).unif, .int .i64 (C).vary] 24)).alloc (.cells (envA E) 31)) w.heap.size #[.int .i64 (C).stage, v, .int .i64 (C).regs, .int .i64 (C).attr, .int .i64 (C).unif, .int .i64 (C).vary] 24 := (Blk.new w _ _).alloc _
  have hE : Blk ((w.alloc (.cells #[.int .i64 (C).stage, v, .int .i64 (C).regs, .int .i64 (C).attr, .int .i64 (C).unif, .int .i64 (C).vary] 24)).alloc (.cells (envA E) 31)) (w.heap.size + 1) (envA E) 31 := Blk.at (by simp)
  have D := hide (And.intro hC (And.intro hE hX))
  have HA := hide (And.intro hI (And.intro hS hG))
  have HOK := hide (And.intro hok h32)
  clear hX hC hE hI hS hG hok h32
  go_enter Tryz.func13, Tryz.ntmps13
  go_upto_region 1 with fail
  generalize hw3 : ((w.alloc (.cells #[.int .i64 (C).stage, v, .int .i64 (C).regs, .int .i64 (C).attr, .int .i64 (C).unif, .int .i64 (C).vary] 24)).alloc (.cells (envA E) 31)) = w3 at D
  try rw [show ((w.alloc (.cells #[.int .i64 (C).stage, v, .int .i64 (C).regs, .int .i64 (C).attr, .int .i64 (C).unif, .int .i64 (C).vary] 24)).alloc (.cells (envA E) 31)) = w3 from hw3]
  clear hw3
  have HB := hide (unhide D).1
  have HE := hide (unhide D).2.1
  have HRF := hide (refusalM_any C v E S w3 ((unhide HA).1.ext (unhide D).2.2) ((unhide HA).2.1.ext (unhide D).2.2))
  have EQ := hide (show TrcQ C S G w = TrcQ C S G w from rfl)
  obtain ⟨r, hr⟩ : ∃ r, refI C S.att.length S.uni.length S.vry.length = r := ⟨_, rfl⟩
  rw [hr] at HRF
  have HR := hide hr
  clear hr
  go_upto_region 2 with (first
    | refine wpList_load_row rfl 24 (.tmp 2) rfl w.heap.size rfl 24 #[.int .i64 (C).stage, v, .int .i64 (C).regs, .int .i64 (C).attr, .int .i64 (C).unif, .int .i64 (C).vary] (0, 0) _ (unhide HB) Tryz.underlying24 rfl size6 ?_
    | refine wpList_load_row rfl 31 (.tmp 3) rfl (w.heap.size + 1) rfl 31 (envA E) (0, 0) _ (unhide HE) Tryz.underlying31 rfl sizeEnv ?_
    | (go_at_call 25; refine (unhide HRF).mono ?_; rintro e w4 ⟨rfl, hx4⟩; have X4 := hide hx4; clear hx4))
  have D4 := hide (And.intro ((unhide D).1.ext (unhide X4)) (And.intro ((unhide D).2.1.ext (unhide X4)) ((unhide D).2.2.trans (unhide X4))))
  clear D HB HE HRF X4
  by_cases h0 : r = 0
  case neg =>
    have d : (r != 0) = true := by simp [h0]
    have H0 := hide h0
    clear h0
    go_wp2
    refine bodyPost_ret (v := .tuple #[.slice none 0 0, .int .i64 r]) (by simp [results, Tryz.results13, go_sem]) rfl (.inl ⟨by rw [unhide HR]; exact unhide H0, by rw [unhide HR], (unhide D4).2.2⟩)
  case pos =>
  have hfit := ref_zero ((unhide HR).trans h0)
  have H0 := hide h0
  subst h0
  have hmay := hfit.1
  have hvry : 0 ≤ C.vary ∧ C.vary ≤ 4 := by
    have h := hmay
    simp only [mayP, Bool.and_eq_true] at h
    have h2 := h.1
    unfold headB at h2
    split at h2
    · simp only [Bool.and_eq_true, inB_iff] at h2
      omega
    · split at h2
      · simp only [Bool.and_eq_true, inB_iff] at h2
        omega
      · cases h2
  go_upto_region 5 with fail
  obtain ⟨pb, hpb⟩ : ∃ pb, w4.heap.size = pb := ⟨_, rfl⟩
  have HP : Hid (Blk (w4.alloc (.cells #[.slice none 0 0] 40)) pb #[.slice none 0 0] 40) := Blk.at hpb
  have HX45 := hide ((Ext.refl w4).alloc (.cells #[.slice none 0 0] 40))
  have hpl : w4.heap.size ≤ pb := by omega
  rw [show Value.pointer (some ⟨w4.heap.size, 0, none⟩) = Value.pointer (some ⟨pb, 0, none⟩) by rw [hpb]]
  clear hpb
  generalize w4.alloc (.cells #[.slice none 0 0] 40) = w5 at HP HX45 ⊢
  have hp5 := (unhide HP).lt
  have HNM := hide (newMachine_any C v E w5 (may_regs hmay).2 hvry)
  have HFIT := hide (fit_of hfit.2 (unhide HOK).2)
  have HMAY := hide hmay
  clear hfit hmay hvry
  have HB := hide ((unhide D4).1.ext (unhide HX45))
  have HE := hide ((unhide D4).2.1.ext (unhide HX45))
  go_upto_region 6 with (first
    | refine wpList_load_row rfl 24 (.tmp 2) rfl w.heap.size rfl 24 #[.int .i64 (C).stage, v, .int .i64 (C).regs, .int .i64 (C).attr, .int .i64 (C).unif, .int .i64 (C).vary] (0, 0) _ (unhide HB) Tryz.underlying24 rfl size6 ?_
    | refine wpList_load_row rfl 31 (.tmp 3) rfl (w.heap.size + 1) rfl 31 (envA E) (0, 0) _ (unhide HE) Tryz.underlying31 rfl sizeEnv ?_
    | (go_at_call 26; refine (unhide HNM).mono ?_; rintro e w6 ⟨mb, vr, vy, rfl, hnm⟩; have NM := hide hnm; clear hnm))
  have X56 := hide (unhide NM).2.2.2.1
  have HX46 := hide ((unhide HX45).trans (unhide X56))
  have c1 := ((unhide HB).ext (unhide X56)).cell (i := 1) (v := v) rfl
  have MM : Hid (MAt w4 w6 mb E vr vy (st0 C)) := by
    obtain ⟨h1, h2, h3, h4, h5, h6, h7⟩ := unhide NM
    have h8 := (unhide HX45).size
    exact ⟨h1, GO.lower h2 h8, GO.lower h3 h8, unhide HX46, by omega, h6, h7⟩
  have hmb : ∀ b, MB mb vr vy b → w5.heap.size ≤ b ∧ b < w6.heap.size := fun b hb => by
    obtain ⟨h1, h2, h3, h4, h5, h6, h7⟩ := unhide NM
    rcases hb with rfl | hb | hb
    · exact ⟨h5, h1.lt⟩
    · exact GO.lt h2 b hb
    · exact GO.lt h3 b hb
  have HSEE := hide (trace1_sees (w0 := w4) (N := w6.heap.size) (pb := pb) hpl (fun hb => by have := (hmb pb hb).1; omega) (fun b hb => (hmb b hb).2))
  have HTR : Hid (TrAt w4 w6.heap.size pb mb vr vy w6 []) := ⟨.slice none 0 0, (unhide HP).ext (unhide X56), GO.nil _ _, fun g hg => by simp [Value.ownBlock] at hg, Nat.le_refl _⟩
  have HRUN := hide (run_any (unhide HMAY) (unhide MM) ((unhide HA).2.1.ext (unhide D4).2.2) ((unhide HA).2.2.ext (unhide D4).2.2) (unhide HFIT) ((unhide HA).1.ext (unhide D4).2.2) (unhide HOK).1 (unhide HSEE) (unhide HTR))
  have D5 := hide (unhide D4).2.2
  clear HNM NM MM HB HE D4 HSEE HTR hmb HFIT
  go_upto_region 7 with (go_at_call 27; refine (unhide HRUN).mono ?_; rintro e w7 hrun; have RM := hide hrun; clear hrun; obtain ⟨rfl, _, _⟩ := id (unhide RM))
  clear HRUN
  obtain ⟨q, hq⟩ : ∃ q, runP C S G = q := ⟨_, rfl⟩
  have HQ := hide hq
  rw [hq] at RM
  clear hq
  have hx47 : Ext w4 w7 := by
    obtain ⟨_, _, h | h⟩ := unhide RM
    · exact h.2.2.2.2.1
    · exact h.2.2.2.2.1
  obtain ⟨vt, hB7, hG7, _, _⟩ := (unhide RM).2.1
  obtain ⟨ao, cap, evt, _⟩ := GO.shape hG7
  subst evt
  have HG7 := hide hG7
  have HX7 := hide ((unhide D5).trans hx47)
  have c0 := hB7.cell (i := 0) (v := .slice ao q.2.length cap) rfl
  have hs4 := (unhide D5).size
  clear hB7 hG7 hx47 RM D5 c1
  go_wp2
  refine bodyPost_ret (v := .tuple #[.slice ao q.2.length cap, .int .i64 0]) (by simp [results, Tryz.results13, go_sem]) rfl (.inr ⟨unhide HR, ao, cap, by rw [unhide HQ], ?_, unhide HX7⟩)
  rw [unhide HQ]
  exact GO.lower (unhide HG7) hs4
/-- What Trace answers, as a row and an error. -/
structure TrcS (C : Cod) (S : Sur) (G : List (Img × Value × List Ent)) (w : World) (ao : Option Addr) (n cap : Nat) (r : Int) (w' : World) : Prop where
  ext : Ext w w'
  err : r = refI C S.att.length S.uni.length S.vry.length
  bad : r ≠ 0 → ao = none ∧ n = 0 ∧ cap = 0
  ok : r = 0 → n = (runP C S G).2.length ∧ GO nEnc 3 1 w' w.heap.size (.slice ao n cap) (runP C S G).2
theorem TrcQ.shape {C : Cod} {S : Sur} {G : List (Img × Value × List Ent)} {w : World} {e : Ending} {w' : World} (h : TrcQ C S G w e w') : ∃ ao n cap r, e = .returned (.tuple #[.slice ao n cap, .int .i64 r]) ∧ TrcS C S G w ao n cap r w' := by
  rcases h with ⟨h1, rfl, h2⟩ | ⟨h1, ao, cap, rfl, h2, h3⟩
  · exact ⟨none, 0, 0, _, rfl, h2, rfl, fun _ => ⟨rfl, rfl, rfl⟩, fun h => absurd h h1⟩
  · exact ⟨ao, _, cap, 0, rfl, h3, h1.symm, fun h => absurd rfl h, fun _ => ⟨rfl, h2⟩⟩
theorem nrow_at {w : World} {base : Nat} {ao : Option Addr} {n cap : Nat} {P : List Nat} (h : GO nEnc 3 1 w base (.slice ao n cap) P) (k : Nat) (hk : k < P.length) : ∃ g, ao = some ⟨g, 0, none⟩ ∧ g < w.heap.size ∧ base ≤ g ∧ w.cell? ⟨g, k, none⟩ = some (.int .i64 (P[k] : Int)) := by
  obtain ⟨g, e, h1, h2, hc⟩ := GO.at nEnc_len h k hk
  refine ⟨g, e, h2, h1, ?_⟩
  have := hc 0 (.int .i64 (P[k] : Int)) (by omega) rfl
  simpa using this
end Go.Proofs.YtglfhmlcmffoaaaGreat

/-
  A region that draws its order: a load may be taken first where its cell is written only by operations that wait for it. The condition on the world hangs on what has come up.
-/
namespace Go.Proofs.YtglfhmlcmffoaaaGreat
open Go.RowKit
set_option linter.unusedVariables false
set_option linter.unusedSimpArgs false

section
variable {P : Program} {ops : Array Oper} {Q : Exit → Act → World → Prop} {md : Region.Mode} {S : Array Bool → World → Prop}

/-- Whatever order is picked from here on, and S holds of what has come up and of the world behind every operation. -/
def wpAnyL (P : Program) (md : Region.Mode) (ops : Array Oper) (Q : Exit → Act → World → Prop) (S : Array Bool → World → Prop) : Nat → Array Bool → Act → World → Prop
  | 0, listed, a, w => Region.ready md ops listed = [] ∧ Q .normal a w
  | fuel + 1, listed, a, w =>
    (Region.ready md ops listed = [] → Q .normal a w) ∧
    ∀ i ∈ Region.ready md ops listed, wpOp P ops Q i (fun a' w' => S (listed.setIfInBounds i true) w' ∧ wpAnyL P md ops Q S fuel (listed.setIfInBounds i true) a' w') a w

theorem wpAny_of_L : ∀ (fuel : Nat) (listed : Array Bool) (a : Act) (w : World), wpAnyL P md ops Q S fuel listed a w → wpAny P md ops Q fuel listed a w
  | 0, _, _, _, h => h
  | fuel + 1, _, _, _, h => ⟨h.1, fun i hi => wpOp_mono (fun a' w' h' => wpAny_of_L fuel _ a' w' h'.2) (h.2 i hi)⟩

theorem wpAnyL_first {i : Nat} {oi : Oper} {v : Value} {SY : World → Prop} {ds : List Nat} (hi : ops[i]? = some oi) (hsel : ∀ (j : Nat) (o : Oper) cs b, ops[j]? = some o → o.op ≠ .select cs b)
    (hQ : ∀ c a w, Q (.panic c) (a.put oi.dst v) w → Q (.panic c) a w) (hind : ∀ L w, S (L.setIfInBounds i true) w → S L w)
    (hSY : ∀ L w, (∀ s ∈ ds, L.getD s true = false) → S L w → SY w)
    (hdep : ∀ s ∈ ds, ∃ os, ops[s]? = some os ∧ ∃ e ∈ os.after, Region.binds md e = true ∧ e.on = i) :
    ∀ (fuel : Nat) (listed : Array Bool) (a : Act) (w : World),
      (∀ j oj, ops[j]? = some oj → j ≠ i → listed.getD j true = false → (∀ e ∈ oj.after, Region.binds md e = true → e.on ≠ i) → oi.apart ops oj = true) →
      i ∈ Region.ready md ops listed → (∀ s ∈ ds, listed.getD s true = false) → YieldsIf P ops SY oi v a → SY w → S (listed.setIfInBounds i true) w →
      wpAnyL P md ops Q S fuel (listed.setIfInBounds i true) (a.put oi.dst v) w → wpAnyL P md ops Q S (fuel + 1) listed a w := by
  intro fuel
  induction fuel with
  | zero =>
    intro listed a w _ hr hds hy hSw hS0 H
    refine ⟨fun h => (by rw [h] at hr; cases hr), fun j hj => ?_⟩
    by_cases hji : j = i
    · subst hji; exact hy.wpOp hi hSw ⟨hS0, H⟩
    · have := ready_mono hj hji
      rw [H.1] at this
      cases this
  | succ fuel ih =>
    intro listed a w hfree hr hds hy hSw hS0 H
    refine ⟨fun h => (by rw [h] at hr; cases hr), fun j hj => ?_⟩
    by_cases hji : j = i
    · subst hji; exact hy.wpOp hi hSw ⟨hS0, H⟩
    · have h1 := H.2 j (ready_mono hj hji)
      obtain ⟨hjun, oj, hoj, hall⟩ := mem_ready.1 hj
      have hnot : ∀ e ∈ oj.after, Region.binds md e = true → e.on ≠ i := fun e he hb heq => by
        have h1 := hall e he hb
        have h0 := (mem_ready.1 hr).1
        rw [heq] at h1
        rcases Nat.lt_or_ge i listed.size with h' | h'
        · simp [h'] at h0 h1; rw [h0] at h1; cases h1
        · simp [Array.getElem?_eq_none h'] at h1
      have hjs : ∀ s ∈ ds, j ≠ s := fun s hs e => by
        obtain ⟨os, hos, e2, he2, hb2, ho2⟩ := hdep s hs
        subst e
        rw [hoj] at hos
        cases hos
        exact hnot e2 he2 hb2 ho2
      have h2 := wpOp_putIf hoj (hfree j oj hoj hji hjun hnot) (fun cs b => hsel i oi cs b hi) (fun cs b => hsel j oj cs b hoj) hQ hy h1
      have hfree' : ∀ k ok, ops[k]? = some ok → k ≠ i → (listed.setIfInBounds j true).getD k true = false →
          (∀ e ∈ ok.after, Region.binds md e = true → e.on ≠ i) → oi.apart ops ok = true := fun k ok hk hki hun hno => by
        refine hfree k ok hk hki ?_ hno
        by_cases hjk : j = k
        · subst hjk; exact hjun
        · rw [getD_set_ne true hjk] at hun; exact hun
      have hds' : ∀ s ∈ ds, (listed.setIfInBounds j true).getD s true = false := fun s hs => by
        rw [getD_set_ne true (hjs s hs)]
        exact hds s hs
      have hcm : (listed.setIfInBounds i true).setIfInBounds j true = (listed.setIfInBounds j true).setIfInBounds i true := Array.setIfInBounds_comm _ _ (Ne.symm hji)
      rw [hcm] at h2
      exact wpOp_mono (fun a' w' h3 => ⟨hind _ _ h3.2.1, ih (listed.setIfInBounds j true) a' w' hfree' (ready_mono hr (Ne.symm hji)) hds' h3.1 (hSY _ _ hds' (hind _ _ h3.2.1)) h3.2.1 h3.2.2⟩) h2

/-- Number i may be taken first: it may come up, its value is the same in every world that it can meet, and nobody who could come before it touches its temporaries. -/
theorem wpAnyL_take {i : Nat} {oi : Oper} {v : Value} (SY : World → Prop) (ds : List Nat) {fuel : Nat} {listed : Array Bool} {a : Act} {w : World} (hi : ops[i]? = some oi)
    (hs : Region.noSelect ops = true) (hf : Region.free md ops listed i = true) (hr : (Region.ready md ops listed).contains i = true)
    (hdp : ds.all (fun s => (ops[s]?.map (fun o => o.after.any (fun e => Region.binds md e && e.on == i))).getD false) = true) (hun : ds.all (fun s => !(listed.getD s true)) = true)
    (hQ : ∀ c a w, Q (.panic c) (a.put oi.dst v) w → Q (.panic c) a w) (hind : ∀ L w, S (L.setIfInBounds i true) w → S L w)
    (hSY : ∀ L w, (∀ s ∈ ds, L.getD s true = false) → S L w → SY w)
    (hy : YieldsIf P ops SY oi v a) (hS : S listed w) (hS1 : S (listed.setIfInBounds i true) w)
    (h : wpAnyL P md ops Q S fuel (listed.setIfInBounds i true) (a.put oi.dst v) w) : wpAnyL P md ops Q S (fuel + 1) listed a w := by
  have hds : ∀ s ∈ ds, listed.getD s true = false := fun s hs => by
    have := List.all_eq_true.1 hun s hs
    simpa using this
  refine wpAnyL_first hi (Region.noSelect_spec hs) hQ hind hSY (fun s hs => ?_) fuel listed a w (Region.free_spec hi hf) (by simpa using hr) hds hy (hSY _ _ hds hS) hS1 h
  have := List.all_eq_true.1 hdp s hs
  cases ho : ops[s]? with
  | none => rw [ho] at this; simp at this
  | some os =>
    rw [ho] at this
    simp only [Option.map_some, Option.getD_some, Array.any_eq_true', Bool.and_eq_true, beq_iff_eq] at this
    obtain ⟨e, he, hb, ho2⟩ := this
    exact ⟨os, rfl, e, he, hb, ho2⟩

/-- Only one may come up. -/
theorem wpAnyL_one {i : Nat} {o : Oper} {fuel : Nat} {listed : Array Bool} {a : Act} {w : World} (hr : Region.ready md ops listed = [i]) (hi : ops[i]? = some o) (hw : Region.wanted o (yielded ops a.tmps) = true)
    (h : o.wp P a w (fun a' w' => S (listed.setIfInBounds i true) w' ∧ wpAnyL P md ops Q S fuel (listed.setIfInBounds i true) a' w') Q) : wpAnyL P md ops Q S (fuel + 1) listed a w := by
  refine ⟨fun h0 => (by rw [hr] at h0; cases h0), fun j hj => ?_⟩
  rw [hr] at hj
  obtain rfl : j = i := by simpa using hj
  unfold wpOp
  simp only [hi, hw, if_true]
  exact .inl h
/-- The same, what follows under a name. -/
theorem wpAnyL_next {i : Nat} {o : Oper} {fuel : Nat} {listed : Array Bool} {a : Act} {w : World} (hr : Region.ready md ops listed = [i]) (hi : ops[i]? = some o) (hw : Region.wanted o (yielded ops a.tmps) = true)
    (h : ∀ K : Act → World → Prop, Hid (∀ a' w', S (listed.setIfInBounds i true) w' → wpAnyL P md ops Q S fuel (listed.setIfInBounds i true) a' w' → K a' w') → o.wp P a w K Q) : wpAnyL P md ops Q S (fuel + 1) listed a w :=
  wpAnyL_one hr hi hw (h _ (fun _ _ h1 h2 => ⟨h1, h2⟩))
theorem wpAnyL_done {listed : Array Bool} {a : Act} {w : World} (hr : Region.ready md ops listed = []) (h : Q .normal a w) :
    ∀ fuel, wpAnyL P md ops Q S fuel listed a w
  | 0 => ⟨hr, h⟩
  | _ + 1 => ⟨fun _ => h, by rw [hr]; simp⟩
theorem wp_regionL {id : Nat} {a : Act} {w : World} (hm : P.follows .mixedOrders = true)
    (h : wpAnyL P .any ops Q S ops.size (Array.replicate ops.size false) a w.drew) : (Code.region id ops true).wp P Q a w :=
  wp_region_any hm (wpAny_of_L _ _ _ _ h)
end
end Go.Proofs.YtglfhmlcmffoaaaGreat

/-
  What holds as long as a store has not come up, for regions that draw. Nothing here speaks of the program.
-/
namespace Go.Proofs.YtglfhmlcmffoaaaGreat
open Go.RowKit
set_option linter.unusedVariables false
set_option linter.unusedSimpArgs false

/-- What holds as long as a store has not come up. -/
def SL (s1 s2 s3 : Nat) (F1 F2 F3 : World → Prop) (L : Array Bool) (w : World) : Prop := (L.getD s1 true = false → F1 w) ∧ (L.getD s2 true = false → F2 w) ∧ (L.getD s3 true = false → F3 w)
theorem SL.ind {s1 s2 s3 i : Nat} {F1 F2 F3 : World → Prop} (h1 : i ≠ s1) (h2 : i ≠ s2) (h3 : i ≠ s3) : ∀ L w, SL s1 s2 s3 F1 F2 F3 (L.setIfInBounds i true) w → SL s1 s2 s3 F1 F2 F3 L w := fun L w h =>
  ⟨fun e => h.1 (by rw [getD_set_ne true h1]; exact e), fun e => h.2.1 (by rw [getD_set_ne true h2]; exact e), fun e => h.2.2 (by rw [getD_set_ne true h3]; exact e)⟩
theorem SL.all {s1 s2 s3 : Nat} {F1 F2 F3 : World → Prop} {L : Array Bool} {w : World} (h1 : F1 w) (h2 : F2 w) (h3 : F3 w) : SL s1 s2 s3 F1 F2 F3 L w := ⟨fun _ => h1, fun _ => h2, fun _ => h3⟩
theorem SL.get1 {s1 s2 s3 : Nat} {F1 F2 F3 : World → Prop} : ∀ L w, (∀ s ∈ [s1], L.getD s true = false) → SL s1 s2 s3 F1 F2 F3 L w → F1 w := fun L w h hS => hS.1 (h s1 (by simp))
theorem SL.get2 {s1 s2 s3 : Nat} {F1 F2 F3 : World → Prop} : ∀ L w, (∀ s ∈ [s2], L.getD s true = false) → SL s1 s2 s3 F1 F2 F3 L w → F2 w := fun L w h hS => hS.2.1 (h s2 (by simp))
theorem SL.get3 {s1 s2 s3 : Nat} {F1 F2 F3 : World → Prop} : ∀ L w, (∀ s ∈ [s3], L.getD s true = false) → SL s1 s2 s3 F1 F2 F3 L w → F3 w := fun L w h hS => hS.2.2 (h s3 (by simp))
theorem cell_ne (w : World) (g i j : Nat) (v : Value) (h : j ≠ i) : (w.setCell ⟨g, i, none⟩ v).cell? ⟨g, j, none⟩ = w.cell? ⟨g, j, none⟩ := by
  apply World.cell?_setCell_other
  intro e
  cases e
  exact h rfl
theorem froz_set (w : World) (p q : Addr) (v : Value) : (w.setCell p v).frozen? q = w.frozen? q := World.frozen?_setCell _ _ _ _
theorem getD_self (L : Array Bool) (i : Nat) : (L.setIfInBounds i true).getD i true = true := by
  rcases Nat.lt_or_ge i L.size with h | h
  · simp [h]
  · simp [Array.getElem?_eq_none (by simpa using h : (L.setIfInBounds i true).size ≤ i)]
theorem SL.mk1 {s1 s2 s3 : Nat} {F1 F2 F3 : World → Prop} {L : Array Bool} {w : World} (b1 : L.getD s1 true = true) (h2 : F2 w) (h3 : F3 w) : SL s1 s2 s3 F1 F2 F3 L w := ⟨fun e => (by rw [b1] at e; cases e), fun _ => h2, fun _ => h3⟩
theorem SL.mk2 {s1 s2 s3 : Nat} {F1 F2 F3 : World → Prop} {L : Array Bool} {w : World} (b1 : L.getD s1 true = true) (b2 : L.getD s2 true = true) (h3 : F3 w) : SL s1 s2 s3 F1 F2 F3 L w := ⟨fun e => (by rw [b1] at e; cases e), fun e => (by rw [b2] at e; cases e), fun _ => h3⟩
theorem SL.mk3 {s1 s2 s3 : Nat} {F1 F2 F3 : World → Prop} {L : Array Bool} {w : World} (b1 : L.getD s1 true = true) (b2 : L.getD s2 true = true) (b3 : L.getD s3 true = true) : SL s1 s2 s3 F1 F2 F3 L w := ⟨fun e => (by rw [b1] at e; cases e), fun e => (by rw [b2] at e; cases e), fun e => (by rw [b3] at e; cases e)⟩
end Go.Proofs.YtglfhmlcmffoaaaGreat
