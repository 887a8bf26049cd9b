/-
  Vertices out of bytes: kinds of numbers, numbers, vertices, rows, plainly.
-/
import Derived.Test.YtmigakbccmkjoaaFxB
import Derived.Test.YtmigakbccmkjoaaNum
import Derived.Test.YtmigakbccmkjoaaVH
namespace Go.Proofs.Ytmigakbccmkjoaa
open Go.RowKit
set_option linter.unusedVariables false

/-- Bytes of a number of a kind; the least one, the greatest one; is there such a kind? -/
def widI (k : Int) : Nat := if k = 1 ∨ k = 2 then 1 else if k = 3 ∨ k = 4 then 2 else if k = 5 then 4 else 0
def lstI (k : Int) : Int := if k = 1 then -128 else if k = 3 then -32768 else if k = 5 then -2147483648 else 0
def mstI (k : Int) : Int := if k = 1 then 127 else if k = 2 then 255 else if k = 3 then 32767 else if k = 4 then 65535 else if k = 5 then 2147483647 else 0
def knwB (k : Int) : Bool := decide (1 ≤ k ∧ k ≤ 5)
theorem knw_cases {k : Int} (h : knwB k = true) : k = 1 ∨ k = 2 ∨ k = 3 ∨ k = 4 ∨ k = 5 := by
  unfold knwB at h
  have := of_decide_eq_true h
  omega
theorem knw_no {k : Int} (h : knwB k = false) : ¬ (1 ≤ k ∧ k ≤ 5) := of_decide_eq_false h
/-- The number that n of a kind stands for. -/
def numF (k : Int) (nz : Bool) (n : Int) : Int := if k = 5 then rawI n else if nz = false then rawI (65536 * n) else max (divI (rawI n) (rawI (mstI k))) (-65536)
theorem numF_i32 (k : Int) (nz : Bool) (n : Int) : I32 (numF k nz n) := by
  unfold numF
  split
  · exact rawI_i32 _
  · split
    · exact rawI_i32 _
    · have := divI_i32 (rawI n) (rawI (mstI k))
      unfold I32 at *
      omega
/-- The number of a kind that bytes are. -/
def rdF (k : Int) (l : List Int) : Int := if k = 1 then sgn 128 (numOf l) else if k = 3 then sgn 32768 (numOf l) else if k = 5 then sgn 2147483648 (numOf l) else numOf l

/-- An array. -/
structure Arr where
  size : Int
  kind : Int
  nz : Bool
  stride : Int
  off : Int
def arrB (A : Arr) : Bool := knwB A.kind && decide (1 ≤ A.size ∧ A.size ≤ 4) && decide (0 ≤ A.stride ∧ A.stride ≤ 255) && decide (0 ≤ A.off ∧ A.off ≤ 262144)
theorem arr_facts {A : Arr} (h : arrB A = true) : knwB A.kind = true ∧ 1 ≤ A.size ∧ A.size ≤ 4 ∧ 0 ≤ A.stride ∧ A.stride ≤ 255 ∧ 0 ≤ A.off ∧ A.off ≤ 262144 := by
  unfold arrB at h
  simp only [Bool.and_eq_true, decide_eq_true_eq] at h
  obtain ⟨⟨⟨h0, h1, h2⟩, h3, h4⟩, h5, h6⟩ := h
  exact ⟨h0, h1, h2, h3, h4, h5, h6⟩
/-- The bytes of a vertex; the step. -/
def vszI (A : Arr) : Int := A.size * (widI A.kind : Int)
def stpI (A : Arr) : Int := if A.stride = 0 then vszI A else A.stride
/-- Where vertex i stands. -/
def vatI (A : Arr) (i : Int) : Int := A.off + i * stpI A
/-- The numbers of a vertex, the first m of them laid, its bytes being bs. -/
def vecF (A : Arr) (bs : List Int) (m : Nat) : Nat → Int := fun j => if j < m then numF A.kind A.nz (rdF A.kind ((bs.drop (j * widI A.kind)).take (widI A.kind))) else if j = 3 then 65536 else 0
/-- Bytes from a place on, as far as there are. -/
def strF (b : List Int) (at_ n : Nat) : List Int := (b.drop at_).take n
/-- Vertex i. -/
def vtxF (b : List Int) (A : Arr) (i : Nat) : Option (Nat → Int) :=
  if (vatI A i).toNat + (vszI A).toNat ≤ b.length then some (vecF A (strF b (vatI A i).toNat (vszI A).toNat) A.size.toNat) else none
/-- The first k things of a row that all are. -/
def fstL (f : Nat → Option (Nat → Int)) (k : Nat) : List (Nat → Int) := (List.range k).map fun i => (f i).getD nul
theorem fstL_len (f : Nat → Option (Nat → Int)) (k : Nat) : (fstL f k).length = k := by simp [fstL]
theorem fstL_succ (f : Nat → Option (Nat → Int)) (k : Nat) : fstL f (k + 1) = fstL f k ++ [(f k).getD nul] := by simp [fstL, List.range_succ]
/-- What is gathered: as many as there are in a row, at most n. -/
def GatQ (f : Nat → Option (Nat → Int)) (n : Nat) (L : List (Nat → Int)) : Prop := ∃ k, k ≤ n ∧ L = fstL f k ∧ (∀ i, i < k → (f i).isSome = true) ∧ (k < n → f k = none)
/-- A row: an error, or the vertices. -/
def rowE (b : List Int) (A : Arr) (first count : Int) : Int :=
  if arrB A = false ∨ first < 0 ∨ 65535 < first ∨ count < 0 ∨ 65535 < count then 2 else if 256 < count then 3 else if (List.range count.toNat).all (fun i => (vtxF b A (first.toNat + i)).isSome) = true then 0 else 7
def rowF (b : List Int) (A : Arr) (first count : Int) : List (Nat → Int) := if rowE b A first count = 0 then fstL (fun i => vtxF b A (first.toNat + i)) count.toNat else []
def vtxE (b : List Int) (A : Arr) (i : Int) : Int := if arrB A = false ∨ i < 0 ∨ 65535 < i then 2 else if (vtxF b A i.toNat).isSome = true then 0 else 7
def vtxV (b : List Int) (A : Arr) (i : Int) : Nat → Int := if vtxE b A i = 0 then (vtxF b A i.toNat).getD nul else nul
theorem wid_pos {k : Int} (h : knwB k = true) : 1 ≤ widI k ∧ widI k ≤ 4 := by
  rcases knw_cases h with rfl | rfl | rfl | rfl | rfl <;> decide
end Go.Proofs.Ytmigakbccmkjoaa
