/-
  The document's calls, plainly.
-/
import Derived.Test.YtcfgooeljmfjoaaKL


namespace Go.Proofs.Ytcfgooeljmfjoaa
open Go.RowKit
set_option linter.unusedVariables false
set_option linter.unusedSimpArgs false

/-- What the document's Call answers. -/
def goodB (t : Ty) (A : List Ty) : Bool :=
  (decide (A.length = 1) && (t.2 == 1 || (A.getD 0 noT).2 == 1 || decide (t.2 ≤ (A.getD 0 noT).2))) || (decide (1 < A.length) && decide (1 < t.2) && decide (t.2 ≤ sumS A) && decide (sumS A - lastS A < t.2))
def oneT : Ty := ⟨1, 1⟩
def c30 (f : Int) (A : List Ty) : Bool :=
  (decide (f ≤ 11) && decide (A.length = 1) && fltB A (A.getD 0 noT).2) || (decide (12 ≤ f) && decide (f ≤ 14) && decide (A.length = 2) && (fltB A (A.getD 0 noT).2 || (fltB (A.take 1) (A.getD 0 noT).2 && eqT (A.getD 1 noT) oneT))) || (decide (f = 15) && decide (A.length = 2) && fltB A (A.getD 0 noT).2)
def c32 (f : Int) (A : List Ty) : Bool := decide (f = 16) && decide (A.length = 2) && (fltB A (A.getD 0 noT).2 || (eqT (A.getD 0 noT) oneT && (A.getD 1 noT).1 == 1))
def c34 (f : Int) (A : List Ty) : Bool :=
  (decide (f = 17) && decide (A.length = 3) && (fltB A (A.getD 0 noT).2 || (fltB (A.take 2) (A.getD 0 noT).2 && eqT (A.getD 2 noT) oneT))) || (decide (f = 18) && decide (A.length = 3) && (fltB A (A.getD 0 noT).2 || ((A.getD 0 noT).1 == 1 && eqT (A.getD 1 noT) oneT && eqT (A.getD 2 noT) oneT)))
def c36 (f : Int) (A : List Ty) : Bool := (decide (f = 19) && decide (A.length = 2) && fltB A (A.getD 0 noT).2) || (decide (f = 20) && decide (A.length = 1) && fltB A (A.getD 0 noT).2)
def c38 (f : Int) (A : List Ty) : Bool := decide (f = 21) && decide (A.length = 2) && fltB A 3
def c40 (f : Int) (A : List Ty) : Bool := decide (f = 22) && decide (A.length = 2) && (A.getD 0 noT).1 == 4 && fltB (A.drop 1) 2
def fnR (f : Int) (A : List Ty) : Ty × Int × Int :=
  if A.length = 0 then (noT, 0, 230)
  else if c30 f A then (A.getD 0 noT, f, 0)
  else if c32 f A then (A.getD 1 noT, f, 0)
  else if c34 f A then (A.getD 0 noT, f, 0)
  else if c36 f A then (oneT, f, 0)
  else if c38 f A then (A.getD 0 noT, f, 0)
  else if c40 f A then (⟨1, 4⟩, f, 0)
  else (noT, 0, 230)
def callR (n : Byts8) (A : List Ty) : Ty × Int × Int :=
  if A.all mayP = false then (noT, 0, 2)
  else if (ofP n).2 = 0 ∧ valuP (ofP n).1 = true then (if A.all valuP && goodB (ofP n).1 A then ((ofP n).1, 23, 0) else (noT, 0, 230))
  else if numT n = 0 then (noT, 0, 4)
  else fnR (numT n) A

/-- How many arguments a function has. -/
def rl (o : Int) : Nat := if o = 1 then 1 else if o = 5 ∨ o = 6 then 3 else 2
theorem takes_len (o : Int) (g : Ty) : ∀ L ∈ takesP o g, L.length = rl o := by
  intro L hL
  unfold takesP at hL
  unfold rl
  split at hL
  · rename_i h; subst h; simp at hL; subst hL; rfl
  split at hL
  · rename_i h; subst h; simp at hL; subst hL; rfl
  split at hL
  · rename_i h; subst h; simp at hL; rcases hL with rfl | rfl <;> rfl
  split at hL
  · rename_i h; subst h; simp at hL; rcases hL with rfl | rfl <;> rfl
  split at hL
  · rename_i h; subst h; simp at hL; rcases hL with rfl | rfl <;> rfl
  split at hL
  · rename_i h; subst h; simp at hL; rcases hL with rfl | rfl <;> rfl
  split at hL
  · rename_i h; subst h; simp at hL; subst hL; rfl
  split at hL
  · rename_i h; subst h; simp at hL; subst hL; rfl
  · simp at hL
theorem callP_len (f : Ty) (A : List Ty) (h : A.length ≠ rl f.2) : callP f A = (noT, 0, 230) := by
  have hgen : ∀ l : List Int, callFrom f A l = (noT, 0, 230) := by
    intro l
    induction l with
    | nil => rfl
    | cons n l ih =>
      unfold callFrom
      rw [if_neg, ih]
      intro hc
      exact h (takes_len f.2 (fltT n) A (by simpa using hc))
  exact hgen _
theorem fnR_len : ∀ p ∈ fns, ∀ A : List Ty, A.length ≠ rl p.2.2 → fnR p.2.1 A = (noT, 0, 230) := by
  intro p hp A h
  unfold fnR c30 c32 c34 c36 c38 c40
  simp only [fns, List.mem_cons, List.not_mem_nil, or_false] at hp
  rcases hp with rfl | rfl | rfl | rfl | rfl | rfl | rfl | rfl | rfl | rfl | rfl | rfl | rfl | rfl | rfl | rfl | rfl | rfl | rfl | rfl | rfl | rfl <;>
  · simp only [rl] at h
    simp at h
    simp [h]
theorem mem_may {a : Ty} (h : mayP a = true) : a ∈ tys.map (·.1) := by
  rw [← may_any] at h
  obtain ⟨p, hp, he⟩ := List.any_eq_true.1 h
  rw [eqT_iff] at he
  subst he
  exact List.mem_map.2 ⟨p, hp, rfl⟩
def tyL : List Ty := tys.map (·.1)
theorem one_all : fns.all (fun p => decide (rl p.2.2 ≠ 1) || tyL.all (fun a => decide (fnR p.2.1 [a] = callP p.2 [a]))) = true := by kernel_rfl
theorem two_all : fns.all (fun p => decide (rl p.2.2 ≠ 2) || tyL.all (fun a => tyL.all (fun b => decide (fnR p.2.1 [a, b] = callP p.2 [a, b])))) = true := by kernel_rfl
theorem three_all : fns.all (fun p => decide (rl p.2.2 ≠ 3) || tyL.all (fun a => tyL.all (fun b => tyL.all (fun c => decide (fnR p.2.1 [a, b, c] = callP p.2 [a, b, c]))))) = true := by kernel_rfl
theorem fnR_eq (p : Byts8 × Ty) (hp : p ∈ fns) (A : List Ty) (hA : A.all mayP = true) : fnR p.2.1 A = callP p.2 A := by
  by_cases hl : A.length = rl p.2.2
  · have hm : ∀ a ∈ A, a ∈ tyL := fun a ha => mem_may (List.all_eq_true.1 hA a ha)
    have hr : rl p.2.2 = 1 ∨ rl p.2.2 = 2 ∨ rl p.2.2 = 3 := by
      unfold rl
      split
      · exact .inl rfl
      · split
        · exact .inr (.inr rfl)
        · exact .inr (.inl rfl)
    rcases hr with hr | hr | hr
    · rw [hr] at hl
      match A, hl with
      | [a], _ =>
        have := List.all_eq_true.1 one_all p hp
        rw [hr] at this
        simp only [ne_eq, not_true_eq_false, decide_false, Bool.false_or] at this
        exact of_decide_eq_true (List.all_eq_true.1 this a (hm a (by simp)))
    · rw [hr] at hl
      match A, hl with
      | [a, b], _ =>
        have := List.all_eq_true.1 two_all p hp
        rw [hr] at this
        simp only [ne_eq, not_true_eq_false, decide_false, Bool.false_or] at this
        exact of_decide_eq_true (List.all_eq_true.1 (List.all_eq_true.1 this a (hm a (by simp))) b (hm b (by simp)))
    · rw [hr] at hl
      match A, hl with
      | [a, b, c], _ =>
        have := List.all_eq_true.1 three_all p hp
        rw [hr] at this
        simp only [ne_eq, not_true_eq_false, decide_false, Bool.false_or] at this
        exact of_decide_eq_true (List.all_eq_true.1 (List.all_eq_true.1 (List.all_eq_true.1 this a (hm a (by simp))) b (hm b (by simp))) c (hm c (by simp)))
  · rw [callP_len p.2 A hl, fnR_len p hp A hl]
theorem sumS_ge : ∀ A : List Ty, (∀ a ∈ A, 1 ≤ a.2) → (A.length : Int) ≤ sumS A
  | [], _ => by simp [sumS]
  | a :: A, h => by
    have h1 := h a (by simp)
    have h2 := sumS_ge A (fun x hx => h x (by simp [hx]))
    simp only [sumS, List.length_cons]
    omega
theorem sum_last (A : List Ty) (h : ∀ a ∈ A, 1 ≤ a.2) (hl : 2 ≤ A.length) : 1 ≤ sumS A - lastS A := by
  have hne : A ≠ [] := by intro e; rw [e] at hl; simp at hl
  have e := (List.dropLast_concat_getLast hne).symm
  have hs : sumS A = sumS A.dropLast + (A.getLast hne).2 := by
    conv => lhs; rw [e]
    rw [sumS_app]
    simp [sumS]
  have hlast : lastS A = (A.getLast hne).2 := by
    unfold lastS
    rw [List.getLast?_eq_some_getLast hne]
  have := sumS_ge A.dropLast (fun a ha => h a ((List.dropLast_sublist A).subset ha))
  rw [List.length_dropLast] at this
  omega
theorem makes_eq (t : Ty) (A : List Ty) (hm : mayP t = true) (hv : valuP t = true) (hA : A.all mayP = true) : (A.all valuP && goodB t A) = makesP t A := by
  unfold makesP
  cases hav : A.all valuP with
  | false => rfl
  | true =>
    have hs : ∀ a ∈ A, 1 ≤ a.2 := fun a ha => (valu_size (List.all_eq_true.1 hA a ha) (List.all_eq_true.1 hav a ha)).1
    have ht := valu_size hm hv
    rw [Bool.true_and, Bool.true_and]
    unfold goodB
    by_cases h0 : A.length = 0
    · rw [if_pos h0, h0]
      rfl
    · rw [if_neg h0]
      by_cases h1 : A.length = 1
      · rw [if_pos h1]
        match A, h1 with
        | [a], _ =>
          have ha := hs a (by simp)
          rw [Bool.eq_iff_iff]
          simp [sumS]
          omega
      · rw [if_neg h1]
        have hsl := sum_last A hs (by omega)
        rw [Bool.eq_iff_iff]
        simp [h1]
        omega
theorem fn_of : ∀ p ∈ fns, ofP p.1 = (noT, 4) ∧ fnP p.1 = some p.2 ∧ p.2.1 ≠ 0 := by decide
theorem fn_mem : ∀ (l : List (Byts8 × Ty)) (n : Byts8) (f : Ty), gL l n = some f → (n, f) ∈ l
  | [], n, f, h => by cases h
  | p :: l, n, f, h => by
    unfold gL at h
    by_cases e : n = p.1
    · rw [if_pos e, Option.some.injEq] at h
      subst h e
      simp
    · rw [if_neg e] at h
      exact List.mem_cons_of_mem _ (fn_mem l n f h)
theorem of_may (n : Byts8) (h : (ofP n).2 = 0) : mayP (ofP n).1 = true := by
  have hgen : ∀ l : List (Ty × Byts8), (∀ p ∈ l, mayP p.1 = true) → (ofIn l n).2 = 0 → mayP (ofIn l n).1 = true := by
    intro l
    induction l with
    | nil => intro _ h; simp [ofIn] at h
    | cons p l ih =>
      intro hl h
      unfold ofIn at h ⊢
      by_cases e : (p.2 == n) = true
      · rw [if_pos e]
        exact hl p (by simp)
      · rw [if_neg e] at h ⊢
        exact ih (fun q hq => hl q (by simp [hq])) h
  exact hgen tys (by decide) h
theorem callR_eq (n : Byts8) (A : List Ty) : callR n A = callT n A := by
  unfold callR callT
  cases hA : A.all mayP with
  | false => rfl
  | true =>
    rw [if_neg (show ¬ (true = false) by decide), if_neg (show ¬ (true = false) by decide)]
    cases hf : fnP n with
    | some f =>
      have hm := fn_mem fns n f hf
      have h3 := fn_of (n, f) hm
      dsimp only at h3
      rw [h3.1, if_neg (show ¬ ((4 : Int) = 0 ∧ valuP noT = true) from fun h => absurd h.1 (by decide))]
      have hn : numT n = f.1 := by unfold numT; rw [hf]
      rw [hn, if_neg h3.2.2]
      exact fnR_eq (n, f) hm A hA
    | none =>
      have hn : numT n = 0 := by unfold numT; rw [hf]
      dsimp only
      by_cases ho : (ofP n).2 = 0 ∧ valuP (ofP n).1 = true
      · rw [if_pos ho, makes_eq _ A (of_may n ho.1) ho.2 hA, if_neg (show ¬ ((ofP n).2 ≠ 0 ∨ valuP (ofP n).1 = false) by rw [ho.2]; simp [ho.1])]
      · rw [if_neg ho, if_pos hn, if_pos]
        by_cases h2 : (ofP n).2 = 0
        · exact .inr (by
            cases hv : valuP (ofP n).1 with
            | false => rfl
            | true => exact absurd ⟨h2, hv⟩ ho)
        · exact .inl h2
end Go.Proofs.Ytcfgooeljmfjoaa
