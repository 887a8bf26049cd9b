/-
  Types, plainly: which may be, their words, and what comes of operators.
-/
import Derived.Test.YtokmplebajgckaaBlk
namespace Go.Proofs.Ytokmplebajgckaa
open Go.RowKit
set_option linter.unusedVariables false
set_option linter.unusedSimpArgs false

abbrev Byts8 := List UInt8
/-- A type: its base and its size. -/
abbrev Ty := Int × Int
def noT : Ty := ⟨0, 0⟩
def truT : Ty := ⟨3, 1⟩
def fltT (n : Int) : Ty := ⟨1, n⟩
def tys : List (Ty × Byts8) := [(⟨0, 0⟩, [118, 111, 105, 100]), (⟨1, 1⟩, [102, 108, 111, 97, 116]), (⟨1, 2⟩, [118, 101, 99, 50]), (⟨1, 3⟩, [118, 101, 99, 51]), (⟨1, 4⟩, [118, 101, 99, 52]), (⟨2, 1⟩, [105, 110, 116]), (⟨2, 2⟩, [105, 118, 101, 99, 50]), (⟨2, 3⟩, [105, 118, 101, 99, 51]), (⟨2, 4⟩, [105, 118, 101, 99, 52]), (⟨3, 1⟩, [98, 111, 111, 108]), (⟨3, 2⟩, [98, 118, 101, 99, 50]), (⟨3, 3⟩, [98, 118, 101, 99, 51]), (⟨3, 4⟩, [98, 118, 101, 99, 52]), (⟨4, 1⟩, [115, 97, 109, 112, 108, 101, 114, 50, 68])]
def numP (t : Ty) : Bool := t.1 == 1 || t.1 == 2
def valuP (t : Ty) : Bool := numP t || t.1 == 3
def plnP (t : Ty) : Bool := t.2 == 1
/-- May a type be? -/
def mayP (t : Ty) : Bool := (t.1 == 0 && t.2 == 0) || (t.1 == 4 && t.2 == 1) || (decide (1 ≤ t.1) && decide (t.1 ≤ 3) && decide (1 ≤ t.2) && decide (t.2 ≤ 4))
/-- Two types are the same. -/
def eqT (a c : Ty) : Bool := a.1 == c.1 && a.2 == c.2
theorem eqT_iff {a c : Ty} : eqT a c = true ↔ a = c := by
  cases a; cases c
  simp [eqT]
theorem eqT_cases {a c : Ty} (h : eqT a c = false) : (a.1 == c.1) = false ∨ ((a.1 == c.1) = true ∧ (a.2 == c.2) = false) := by
  unfold eqT at h
  cases q : (a.1 == c.1) with
  | false => exact .inl rfl
  | true => rw [q, Bool.true_and] at h; exact .inr ⟨rfl, h⟩
theorem eqT_comm (a c : Ty) : eqT a c = eqT c a := by
  rw [Bool.eq_iff_iff, eqT_iff, eqT_iff]
  exact eq_comm
/-- The word of a type in a row of types and words, with the error behind it. -/
def wordIn (l : List (Ty × Byts8)) (t : Ty) : Byts8 × Int :=
  match l with
  | [] => ([], 2)
  | p :: l => if eqT p.1 t then (p.2, 0) else wordIn l t
def ofIn (l : List (Ty × Byts8)) (t : Byts8) : Ty × Int :=
  match l with
  | [] => (noT, 4)
  | p :: l => if p.2 == t then (p.1, 0) else ofIn l t
def wordP (t : Ty) : Byts8 × Int := wordIn tys t
def ofP (t : Byts8) : Ty × Int := ofIn tys t
theorem wordIn_may (l : List (Ty × Byts8)) (t : Ty) : ((wordIn l t).2 == 0) = l.any (fun p => eqT p.1 t) ∧ ((wordIn l t).2 == 0 || (wordIn l t).2 == 2) = true := by
  induction l with
  | nil => exact ⟨rfl, rfl⟩
  | cons p l ih =>
    unfold wordIn
    by_cases h : eqT p.1 t = true
    · simp [h]
    · have h2 : eqT p.1 t = false := by simpa using h
      rw [if_neg h]
      simpa [h2] using ih
theorem may_any (t : Ty) : tys.any (fun p => eqT p.1 t) = mayP t := by
  rw [Bool.eq_iff_iff]
  constructor
  · intro h
    obtain ⟨p, hp, he⟩ := List.any_eq_true.1 h
    rw [eqT_iff] at he
    subst he
    have hall : ∀ p ∈ tys, mayP p.1 = true := by decide
    exact hall p hp
  · intro h
    obtain ⟨b, s⟩ := t
    have h2 : (b = 0 ∧ s = 0 ∨ b = 4 ∧ s = 1) ∨ (b = 1 ∨ b = 2 ∨ b = 3) ∧ (s = 1 ∨ s = 2 ∨ s = 3 ∨ s = 4) := by
      unfold mayP at h
      simp only [Bool.or_eq_true, Bool.and_eq_true, beq_iff_eq, decide_eq_true_eq] at h
      omega
    clear h
    rcases h2 with (⟨rfl, rfl⟩ | ⟨rfl, rfl⟩) | ⟨rfl | rfl | rfl, rfl | rfl | rfl | rfl⟩ <;> decide
theorem word_may (t : Ty) : ((wordP t).2 == 0) = mayP t := by
  rw [← may_any]
  exact (wordIn_may tys t).1
theorem word_err (t : Ty) : (wordP t).2 = if mayP t = true then 0 else 2 := by
  have h1 := word_may t
  have h2 := (wordIn_may tys t).2
  rw [show wordIn tys t = wordP t from rfl] at h2
  by_cases h : mayP t = true
  · rw [h] at h1
    rw [if_pos h]
    exact by simpa using h1
  · have h3 : mayP t = false := by simpa using h
    rw [h3] at h1
    rw [if_neg h]
    rw [h1] at h2
    exact by simpa using h2
/-- A type, if it was taken. -/
def comP (t : Ty) (k : Bool) : Ty × Int := if k then (t, 0) else (noT, 230)
/-- What + - * / make of two, and whether they take them. -/
def sumT (a c : Ty) : Ty := ⟨a.1, max a.2 c.2⟩
def togB (a c : Ty) : Bool := numP a && (a.1 == c.1) && ((a.2 == c.2 || a.2 == 1) || c.2 == 1)
def op1 : List Byts8 := [[43], [45], [42], [47]]
def op2 : List Byts8 := [[60], [62], [60, 61], [62, 61]]
def op3 : List Byts8 := [[61, 61], [33, 61]]
def op4 : List Byts8 := [[38, 38], [124, 124]]
def op5 : List Byts8 := [[43, 61], [45, 61], [42, 61], [47, 61]]
def binP (o : Byts8) (a c : Ty) : Ty × Int :=
  if (mayP a && mayP c) = false then (noT, 2)
  else if op1.contains o then comP (sumT a c) (togB a c)
  else if op2.contains o then comP truT (eqT a c && numP a && plnP a)
  else if op3.contains o then comP truT (eqT a c && valuP a)
  else if op4.contains o then comP truT (eqT a truT && eqT c truT)
  else (noT, 4)
def unaP (o : Byts8) (a : Ty) : Ty × Int :=
  if mayP a = false then (noT, 2)
  else if o == [45] then comP a (numP a)
  else if o == [33] then comP a (eqT a truT)
  else (noT, 4)
def asgP (o : Byts8) (a c : Ty) : Ty × Int :=
  if (mayP a && mayP c) = false then (noT, 2)
  else if o == [61] then comP a (eqT a c && valuP a)
  else if op5.contains o then comP a (togB a c && eqT (sumT a c) a)
  else (noT, 4)
def conP (c a d : Ty) : Ty × Int :=
  if (mayP c && (mayP a && mayP d)) = false then (noT, 2)
  else comP a (eqT c truT && eqT a d && valuP a)
/-- Two cells of a block. -/
theorem Blk.two {w : World} {b : Nat} {x y : Value} {t : TypeId} (h : Blk w b #[x, y] t) : w.cell? ⟨b, 0, none⟩ = some x ∧ w.cell? ⟨b, 1, none⟩ = some y := ⟨h.cell rfl, h.cell rfl⟩
theorem Blk.free2 {w : World} {b : Nat} {cs : Array Value} {t : TypeId} (h : Blk w b cs t) : w.frozen? ⟨b, 0, none⟩ = false ∧ w.frozen? ⟨b, 1, none⟩ = false := ⟨h.free 0, h.free 1⟩
theorem Blk.put2 {w : World} {b : Nat} {x y : Value} {t : TypeId} (h : Blk w b #[x, y] t) (p q : Value) : Blk ((w.setCell ⟨b, 0, none⟩ p).setCell ⟨b, 1, none⟩ q) b #[p, q] t := (h.set 0 p).set 1 q
theorem ext_cell {w w1 : World} {b i : Nat} {x : Value} (h : Ext w w1) (hb : w.heap.size ≤ b) : Ext w (w1.setCell ⟨b, i, none⟩ x) := below_grown h (grownBy_set w1 b i x) h.size hb
theorem ext_set2 {w w1 : World} {b : Nat} {p q : Value} (h : Ext w w1) (hb : w.heap.size ≤ b) : Ext w ((w1.setCell ⟨b, 0, none⟩ p).setCell ⟨b, 1, none⟩ q) := ext_cell (ext_cell h hb) hb
theorem below_set2 {B : Nat} {w0 w1 : World} {b : Nat} {p q : Value} (h : Below B w0 w1) (hB : B ≤ b) (hs : B ≤ w1.heap.size) : Below B w0 ((w1.setCell ⟨b, 0, none⟩ p).setCell ⟨b, 1, none⟩ q) := by
  have h1 := below_grown h (grownBy_set w1 b 0 p) hs hB
  refine below_grown h1 (grownBy_set _ b 1 q) ?_ hB
  simpa using hs
theorem Blk.at {w : World} {b : Nat} {cs : Array Value} {t : TypeId} (h : w.heap.size = b) : Blk (w.alloc (.cells cs t)) b cs t := h ▸ Blk.new w cs t
end Go.Proofs.Ytokmplebajgckaa
