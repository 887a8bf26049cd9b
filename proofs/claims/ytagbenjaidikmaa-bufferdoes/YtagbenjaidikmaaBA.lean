/-
  Stores of buffers, plain: lists of numbers and what stands under them, rising; a store in memory; what a call leaves alone. Nothing here walks the program.
-/
import Derived.Test.YtagbenjaidikmaaBlk
import Derived.Test.YtagbenjaidikmaaProg
import Derived.Maps.OwnSet
import Derived.Maps.Views
namespace Go.Proofs.Ytagbenjaidikmaa
open Go.RowKit

/-! ### lists by numbers -/
section
variable {α β : Type}
def rem (id : Int) (K : List (Int × α)) : List (Int × α) := K.filter fun p => p.1 != id
def ins (x : Int × α) : List (Int × α) → List (Int × α)
  | [] => [x]
  | y :: r => if x.1 < y.1 then x :: y :: r else y :: ins x r
def look (id : Int) (K : List (Int × α)) : Option α := (K.find? fun p => p.1 == id).map (·.2)
def Rise (K : List (Int × α)) : Prop := K.Pairwise fun p q => p.1 < q.1

theorem mem_ins {x z : Int × α} : ∀ {K : List (Int × α)}, z ∈ ins x K ↔ z = x ∨ z ∈ K
  | [] => by simp [ins]
  | y :: r => by
    unfold ins
    split
    · simp
    · simp only [List.mem_cons, mem_ins (K := r)]
      constructor
      · rintro (h | h | h)
        · exact .inr (.inl h)
        · exact .inl h
        · exact .inr (.inr h)
      · rintro (h | h | h)
        · exact .inr (.inl h)
        · exact .inl h
        · exact .inr (.inr h)
theorem mem_rem {id : Int} {z : Int × α} {K : List (Int × α)} : z ∈ rem id K ↔ z ∈ K ∧ z.1 ≠ id := by simp [rem]
theorem len_ins (x : Int × α) : ∀ K : List (Int × α), (ins x K).length = K.length + 1
  | [] => rfl
  | y :: r => by
    unfold ins
    split
    · rfl
    · simp [len_ins x r]
theorem len_rem (id : Int) (K : List (Int × α)) : (rem id K).length ≤ K.length := List.length_filter_le _ _
theorem Rise.rem {K : List (Int × α)} (h : Rise K) (id : Int) : Rise (rem id K) := List.Pairwise.filter _ h
theorem pair_ins {R : Int × α → Int × α → Prop} {x : Int × α} (hR : ∀ a b, R a b → R b a) : ∀ {K : List (Int × α)}, K.Pairwise R → (∀ y ∈ K, R x y) → (ins x K).Pairwise R
  | [], _, _ => by simp [ins]
  | y :: r, h, hx => by
    unfold ins
    split
    · exact List.pairwise_cons.2 ⟨hx, h⟩
    · have h2 := List.pairwise_cons.1 h
      refine List.pairwise_cons.2 ⟨fun z hz => ?_, pair_ins hR h2.2 (fun z hz => hx z (by simp [hz]))⟩
      rcases mem_ins.1 hz with rfl | hz
      · exact hR _ _ (hx y (by simp))
      · exact h2.1 z hz
theorem Rise.ins {x : Int × α} : ∀ {K : List (Int × α)}, Rise K → (∀ y ∈ K, y.1 ≠ x.1) → Rise (ins x K)
  | [], _, _ => by simp [Rise, Proofs.Ytagbenjaidikmaa.ins]
  | y :: r, h, hx => by
    unfold Proofs.Ytagbenjaidikmaa.ins
    have h2 := List.pairwise_cons.1 h
    split
    · rename_i hlt
      refine List.pairwise_cons.2 ⟨fun z hz => ?_, h⟩
      rcases List.mem_cons.1 hz with rfl | hz
      · exact hlt
      · have := h2.1 z hz
        omega
    · rename_i hlt
      refine List.pairwise_cons.2 ⟨fun z hz => ?_, Rise.ins h2.2 (fun z hz => hx z (by simp [hz]))⟩
      rcases mem_ins.1 hz with rfl | hz
      · have := hx y (by simp)
        omega
      · exact h2.1 z hz
theorem map_rem (f : α → β) (id : Int) (K : List (Int × α)) : (rem id K).map (fun p => (p.1, f p.2)) = rem id (K.map fun p => (p.1, f p.2)) := by
  unfold rem
  rw [List.filter_map]
  rfl
theorem map_ins (f : α → β) (x : Int × α) : ∀ K : List (Int × α), (ins x K).map (fun p => (p.1, f p.2)) = ins (x.1, f x.2) (K.map fun p => (p.1, f p.2))
  | [] => rfl
  | y :: r => by
    unfold ins
    simp only [List.map_cons]
    split
    · simp
    · simp only [List.map_cons, map_ins f x r]
theorem map_look (f : α → β) (id : Int) (K : List (Int × α)) : look id (K.map fun p => (p.1, f p.2)) = (look id K).map f := by
  unfold look
  rw [List.find?_map]
  simp [Function.comp_def]
theorem look_mem {id : Int} {x : α} {K : List (Int × α)} (h : look id K = some x) : (id, x) ∈ K := by
  unfold look at h
  simp only [Option.map_eq_some_iff] at h
  obtain ⟨p, hp, rfl⟩ := h
  have h1 := List.mem_of_find?_eq_some hp
  have h2 := List.find?_some hp
  simp at h2
  subst h2
  exact h1
theorem look_none {id : Int} {K : List (Int × α)} (h : look id K = none) : ∀ p ∈ K, p.1 ≠ id := by
  unfold look at h
  simp only [Option.map_eq_none_iff] at h
  intro p hp
  have := List.find?_eq_none.1 h p hp
  simpa using this
theorem rem_none {id : Int} {K : List (Int × α)} (h : look id K = none) : rem id K = K := by
  unfold rem
  rw [List.filter_eq_self]
  intro p hp
  simpa using look_none h p hp
theorem look_of_mem {id : Int} {x : α} : ∀ {K : List (Int × α)}, Rise K → (id, x) ∈ K → look id K = some x := by
  intro K
  induction K with
  | nil => intro _ h; simp at h
  | cons y r ih =>
    intro hr h
    have h2 := List.pairwise_cons.1 hr
    unfold look
    rcases List.mem_cons.1 h with rfl | h
    · simp
    · have h3 := h2.1 _ h
      have h4 : (y.1 == id) = false := by simp; simp at h3; omega
      rw [List.find?_cons_of_neg (by simp [h4])]
      exact ih h2.2 h
theorem look_ins_same {id : Int} {x : α} {K : List (Int × α)} (hr : Rise K) (hn : ∀ y ∈ K, y.1 ≠ id) : look id (ins (id, x) K) = some x :=
  look_of_mem (hr.ins (x := (id, x)) hn) (mem_ins.2 (.inl rfl))
theorem look_rem_same (id : Int) (K : List (Int × α)) : look id (rem id K) = none := by
  unfold look
  rw [Option.map_eq_none_iff, List.find?_eq_none]
  intro p hp
  simpa using (mem_rem.1 hp).2
theorem look_rem_other {id j : Int} (h : j ≠ id) (K : List (Int × α)) : look j (rem id K) = look j K := by
  unfold look rem
  rw [List.find?_filter]
  congr 2
  funext p
  by_cases hp : p.1 = j
  · subst hp; simp [h]
  · simp [hp]
theorem look_ins_other {x : Int × α} {j : Int} (h : j ≠ x.1) : ∀ K : List (Int × α), look j (ins x K) = look j K
  | [] => by
    unfold look ins
    have : (x.1 == j) = false := by simp; omega
    simp [this]
  | y :: r => by
    have hx : (x.1 == j) = false := by simp; omega
    unfold ins
    split
    · unfold look
      rw [List.find?_cons_of_neg (by simp [hx])]
    · have ih := look_ins_other h r
      unfold look at ih ⊢
      simp only [List.find?_cons]
      split
      · rfl
      · exact ih

/-- What all lists under the numbers have, together. -/
def sumL (f : α → Nat) (K : List (Int × α)) : Nat := (K.map fun p => f p.2).sum
theorem sumL_ins (f : α → Nat) (x : Int × α) : ∀ K : List (Int × α), sumL f (ins x K) = f x.2 + sumL f K
  | [] => by simp [sumL, ins]
  | y :: r => by
    have ih := sumL_ins f x r
    unfold ins
    split
    · simp [sumL]
    · simp only [sumL, List.map_cons, List.sum_cons] at ih ⊢
      omega
theorem sumL_rem (f : α → Nat) (id : Int) : ∀ {K : List (Int × α)}, Rise K → sumL f (rem id K) + ((look id K).map f).getD 0 = sumL f K := by
  intro K
  induction K with
  | nil => intro _; simp [sumL, rem, look]
  | cons y r ih =>
    intro hr
    have h2 := List.pairwise_cons.1 hr
    by_cases hy : y.1 = id
    · have hn : look id r = none := by
        unfold look
        rw [Option.map_eq_none_iff, List.find?_eq_none]
        intro p hp
        have := h2.1 p hp
        simp
        omega
      have e1 : rem id (y :: r) = rem id r := by unfold rem; rw [List.filter_cons_of_neg (by simp [hy])]
      have e2 : look id (y :: r) = some y.2 := by unfold look; rw [List.find?_cons_of_pos (by simp [hy])]; rfl
      rw [e1, e2, rem_none hn]
      simp [sumL]
      omega
    · have e1 : rem id (y :: r) = y :: rem id r := by unfold rem; rw [List.filter_cons_of_pos (by simp [hy])]
      have e2 : look id (y :: r) = look id r := by unfold look; rw [List.find?_cons_of_neg (by simp [hy])]
      have := ih h2.2
      rw [e1, e2]
      simp only [sumL, List.map_cons, List.sum_cons] at this ⊢
      omega
theorem len_rem_some {id : Int} {x : α} : ∀ {K : List (Int × α)}, look id K = some x → (rem id K).length + 1 ≤ K.length := by
  intro K h
  have hm := look_mem h
  unfold rem
  have h2 : ∃ a ∈ K, ¬ ((fun p : Int × α => p.1 != id) a = true) := ⟨_, hm, by simp⟩
  have := List.length_filter_lt_length_iff_exists.2 h2
  omega
end

/-! ### what a call leaves alone -/
/-- All that is not T's is as it was. -/
structure Out (T : Nat → Prop) (w w' : World) : Prop where
  os : w'.os = w.os
  tape : w'.tape = w.tape
  output : w'.output = w.output
  size : w.heap.size ≤ w'.heap.size
  block : ∀ k, k < w.heap.size → ¬ T k → w'.heap[k]? = w.heap[k]?

section
variable {T T' : Nat → Prop} {a b c w w' : World}
theorem Out.refl (T : Nat → Prop) (w : World) : Out T w w := ⟨rfl, rfl, rfl, Nat.le_refl _, fun _ _ _ => rfl⟩
theorem Out.trans (h : Out T a b) (k : Out T' b c) (ht : ∀ k, T' k → T k ∨ a.heap.size ≤ k) : Out T a c :=
  ⟨k.os.trans h.os, k.tape.trans h.tape, k.output.trans h.output, Nat.le_trans h.size k.size, fun i hi hn => by
    rw [k.block i (Nat.lt_of_lt_of_le hi h.size) (fun h2 => (ht i h2).elim hn (fun h3 => by omega)), h.block i hi hn]⟩
theorem Out.of_ext (h : Ext w w') : Out T w w' := ⟨h.os, h.tape, h.output, h.size, fun k hk _ => h.block k hk⟩
theorem Out.of_grown {r : Nat} (h : w.grownBy w' (some r)) (hr : T r) : Out T w w' :=
  ⟨h.os, h.tape, h.output, h.size, fun k hk hn => h.block k hk (fun e => by cases e; exact hn hr)⟩
theorem Out.below {B : Nat} (h : Out T w w') (hB : B ≤ w.heap.size) (ht : ∀ k, T k → B ≤ k) : Below B w w' :=
  ⟨h.os, h.tape, h.output, h.size, fun k hk => h.block k (by omega) (fun h2 => by have := ht k h2; omega)⟩
theorem Blk.out {n : Nat} {cs : Array Value} {t : TypeId} (h : Blk w n cs t) (ho : Out T w w') (hn : ¬ T n) : Blk w' n cs t := (ho.block n h.lt hn).trans h
theorem ext_grown (h : Ext w w') (r : Option Nat) : w.grownBy w' r := ⟨h.os, h.tape, h.output, h.size, fun k hk _ => h.block k hk⟩
end

/-- A row that the call made stays while other blocks turn. -/
theorem Own.grown {k : IntKind} {w w' : World} {base : Nat} {e : TypeId} {v : Value} {xs : List Int} {row : Option Nat} (h : Own k w base e v xs) (hg : w.grownBy w' row) (hne : ∀ b, v.ownBlock = some b → some b ≠ row) : Own k w' base e v xs := by
  refine World.ownsRow.kept h hg ?_
  cases hv : v.ownBlock with
  | none => simp
  | some b => right; exact hne b hv

/-! ### a store's map as a list -/
/-- An element of the map, whatever it is: itself. -/
def heldE : Value → Option (DataW Value × List MemPlace) := fun v => some (.held v, [])
/-- A number, a slice, its bytes. -/
abbrev Ent := Int × Value × List Int
def dat (K : List Ent) : DataW Value := .map (K.map fun p => (Lit.int .i64 p.1, .held p.2.1))

theorem same_int (a b : Int) : (Lit.int .i64 a).sameKey (.int .i64 b) = (a == b) := by
  simp only [Lit.sameKey, true_and]
  by_cases h : a = b <;> simp [h]
theorem dat_filter (id : Int) : ∀ K : List Ent, (K.map fun p => ((Lit.int .i64 p.1, DataW.held p.2.1) : Lit × DataW Value)).filter (fun p => !p.1.sameKey (.int .i64 id)) = (rem id K).map fun p => (Lit.int .i64 p.1, .held p.2.1) := by
  intro K
  unfold rem
  rw [List.filter_map]
  congr 1
  apply List.filter_congr
  intro x _
  simp only [Function.comp_apply, same_int]
  rfl
theorem dat_insert (x : Ent) : ∀ K : List Ent, DataW.insert (Lit.int .i64 x.1, DataW.held x.2.1) (K.map fun p => ((Lit.int .i64 p.1, DataW.held p.2.1) : Lit × DataW Value)) = (ins x K).map fun p => (Lit.int .i64 p.1, .held p.2.1)
  | [] => rfl
  | y :: r => by
    unfold ins
    simp only [List.map_cons, DataW.insert, Lit.before, decide_eq_true_eq]
    split
    · simp
    · rw [dat_insert x r]
      simp
theorem dat_put (id : Int) (v : Value) (bs : List Int) (K : List Ent) : (dat K).put (.int .i64 id) (.held v) = dat (ins (id, v, bs) (rem id K)) := by
  unfold dat DataW.put
  simp only
  rw [dat_filter]
  exact congrArg DataW.map (dat_insert (id, v, bs) (rem id K))
theorem dat_del (id : Int) (K : List Ent) : (dat K).del (.int .i64 id) = dat (rem id K) := by
  unfold dat DataW.del
  simp only
  rw [dat_filter]
theorem dat_find (id : Int) : ∀ K : List Ent, (K.map fun p => ((Lit.int .i64 p.1, DataW.held p.2.1) : Lit × DataW Value)).find? (fun p => p.1.sameKey (.int .i64 id)) = (K.find? fun p => p.1 == id).map fun p => (Lit.int .i64 p.1, .held p.2.1) := by
  intro K
  rw [List.find?_map]
  congr 2
  funext x
  simp only [Function.comp_apply, same_int]
theorem dat_at (id : Int) (K : List Ent) (z : DataW Value) : (dat K).atKey (.int .i64 id) z = (match look id K with | some p => .held p.1 | none => z) := by
  unfold dat DataW.atKey look
  simp only
  rw [dat_find]
  cases K.find? (fun p => p.1 == id) <;> rfl
theorem dat_has (id : Int) (K : List Ent) : Maps.has (dat K) (.int .i64 id) = (look id K).isSome := by
  unfold dat look
  rw [Maps.has_eq, List.any_map, Option.isSome_map]
  induction K with
  | nil => rfl
  | cons y r ih =>
    simp only [List.any_cons, List.find?_cons, ih, Function.comp_apply, same_int]
    split
    · rename_i hy
      simp only [hy]
      rfl
    · rename_i hy
      simp only [hy]
      rfl
theorem dat_size (K : List Ent) : Maps.size (dat K) = K.length := by simp [dat, Maps.size]
end Go.Proofs.Ytagbenjaidikmaa
