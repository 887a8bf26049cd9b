/-
  Codes, plainly: instructions as sixteen numbers, which may be, what they read and write, what can be come to. Nothing here speaks of the program.
-/
import Derived.Test.YtfoffnbkfnbglaaBlk
namespace Go.Proofs.Ytfoffnbkfnbglaa

/-- A code; an instruction is sixteen numbers: Op, Fn, Base, N, Dst, A, B, C, four of Imm, four of Places. -/
structure Cod where
  stage : Int
  regs : Int
  attr : Int
  unif : Int
  vary : Int
  ins : List (Nat → Int)

def inB (x n : Int) : Bool := decide (0 ≤ x) && decide (x < n)
def fargs (f : Int) : Nat := if (12 ≤ f ∧ f ≤ 16) ∨ f = 19 ∨ f = 21 then 2 else if f = 17 ∨ f = 18 then 3 else 1
/-- How many arguments a function takes of a base. -/
def argsP (f b : Int) : Nat :=
  if 1 ≤ f ∧ f ≤ 21 then (if b = 1 then fargs f else 0)
  else if f = 28 then (if b = 1 ∨ b = 2 then 1 else 0)
  else if 24 ≤ f ∧ f ≤ 32 then (if b = 1 ∨ b = 2 then 2 else 0)
  else if f = 33 ∨ f = 34 then (if b = 1 ∨ b = 2 ∨ b = 3 then 2 else 0)
  else if f = 35 then (if b = 3 then 1 else 0)
  else 0
theorem fargs_le (f : Int) : fargs f ≤ 3 := by unfold fargs; repeat' split
                                               all_goals omega
theorem argsP_le (f b : Int) : argsP f b ≤ 3 := by
  have := fargs_le f
  unfold argsP
  repeat' split
  all_goals omega
/-- The registers that an instruction reads. -/
def readsP (I : Nat → Int) : List Int :=
  if I 0 = 2 ∨ I 0 = 6 ∨ I 0 = 8 then [I 5]
  else if I 0 = 4 ∨ I 0 = 11 then [I 6]
  else if I 0 = 5 then [I 5, I 6, I 7].take (argsP (I 1) (I 2))
  else if I 0 = 7 then [I 5, I 4]
  else if I 0 = 9 then [I 5, I 6]
  else []
def wrB (o : Int) : Bool := decide (o = 1 ∨ o = 2 ∨ o = 3 ∨ o = 5 ∨ o = 6 ∨ o = 7 ∨ o = 8 ∨ o = 9)
/-- The register that an instruction writes. -/
def writI (I : Nat → Int) : Int := if wrB (I 0) then I 4 else 0
/-- Which of the sixteen numbers count. -/
def keeps (I : Nat → Int) : Nat → Bool
  | 0 => true
  | 1 => decide (I 0 = 3 ∨ I 0 = 4 ∨ I 0 = 5 ∨ I 0 = 8)
  | 2 => decide (I 0 = 5 ∨ I 0 = 8)
  | 3 => decide (I 0 = 5 ∨ I 0 = 6 ∨ I 0 = 7 ∨ I 0 = 8)
  | 4 => wrB (I 0)
  | 5 => decide (I 0 = 2 ∨ I 0 = 3 ∨ I 0 = 4 ∨ I 0 = 6 ∨ I 0 = 7 ∨ I 0 = 8 ∨ I 0 = 9 ∨ I 0 = 10 ∨ I 0 = 11) || (decide (I 0 = 5) && decide (1 ≤ argsP (I 1) (I 2)))
  | 6 => decide (I 0 = 4 ∨ I 0 = 9 ∨ I 0 = 11) || (decide (I 0 = 5) && decide (2 ≤ argsP (I 1) (I 2)))
  | 7 => decide (I 0 = 5) && decide (3 ≤ argsP (I 1) (I 2))
  | 8 => decide (I 0 = 1)
  | 9 => decide (I 0 = 1)
  | 10 => decide (I 0 = 1)
  | 11 => decide (I 0 = 1)
  | 12 => decide (I 0 = 6 ∨ I 0 = 7) && decide (0 < I 3)
  | 13 => decide (I 0 = 6 ∨ I 0 = 7) && decide (1 < I 3)
  | 14 => decide (I 0 = 6 ∨ I 0 = 7) && decide (2 < I 3)
  | 15 => decide (I 0 = 6 ∨ I 0 = 7) && decide (3 < I 3)
  | _ => false
def justP (I : Nat → Int) (k : Nat) : Int := if keeps I k then I k else 0
/-- Sixteen numbers, the same. -/
def sameI (I J : Nat → Int) : Bool := I 0 == J 0 && (I 1 == J 1 && (I 2 == J 2 && (I 3 == J 3 && (I 4 == J 4 && (I 5 == J 5 && (I 6 == J 6 && (I 7 == J 7 && (I 8 == J 8 && (I 9 == J 9 && (I 10 == J 10 && (I 11 == J 11 && (I 12 == J 12 && (I 13 == J 13 && (I 14 == J 14 && I 15 == J 15))))))))))))))
def baseB (b : Int) : Bool := b == 1 || (b == 2 || b == 3)
def cntB (n : Int) : Bool := decide (1 ≤ n) && decide (n ≤ 4)
def plcB (I : Nat → Int) : Bool := inB (I 12) 4 && (inB (I 13) 4 && (inB (I 14) 4 && inB (I 15) 4))
/-- Whether a number stands twice. -/
def twB : List Int → Bool
  | [] => false
  | x :: r => r.contains x || twB r
def loadB (C : Cod) (I : Nat → Int) : Bool :=
  if I 1 = 1 then C.stage == 1 && inB (I 5) C.attr
  else if I 1 = 2 then inB (I 5) C.unif
  else if I 1 = 3 then C.stage == 2 && inB (I 5) C.vary
  else if I 1 = 4 ∨ I 1 = 5 ∨ I 1 = 6 then C.stage == 2 && I 5 == 0
  else false
def storB (C : Cod) (I : Nat → Int) : Bool :=
  if I 1 = 1 ∨ I 1 = 2 then C.stage == 1 && I 5 == 0
  else if I 1 = 3 then C.stage == 1 && inB (I 5) C.vary
  else if I 1 = 4 then C.stage == 2 && I 5 == 0
  else false
def plcs (I : Nat → Int) : List Int := [I 12, I 13, I 14, I 15]
/-- Whether the fields that count and name no register may be. -/
def fldB (C : Cod) (n k : Nat) (I : Nat → Int) : Bool :=
  if I 0 = 1 ∨ I 0 = 2 ∨ I 0 = 9 then true
  else if I 0 = 3 then loadB C I
  else if I 0 = 4 then storB C I
  else if I 0 = 5 then decide (0 < argsP (I 1) (I 2)) && cntB (I 3)
  else if I 0 = 6 then cntB (I 3) && plcB I
  else if I 0 = 7 then cntB (I 3) && (plcB I && !twB ((plcs I).take (I 3).toNat))
  else if I 0 = 8 then cntB (I 3) && (baseB (I 2) && baseB (I 1))
  else if I 0 = 10 ∨ I 0 = 11 then decide ((k : Int) < I 5) && decide (I 5 ≤ (n : Int))
  else if I 0 = 12 then C.stage == 2
  else false
def rgsB (C : Cod) (I : Nat → Int) : Bool := (readsP I).all (fun r => inB r C.regs) && (!wrB (I 0) || inB (writI I) C.regs)
/-- May the instruction be at the place k of n? -/
def insB (C : Cod) (n k : Nat) (I : Nat → Int) : Bool := sameI I (justP I) && (rgsB C I && fldB C n k I)
def headB (C : Cod) : Bool :=
  if C.stage = 1 then inB C.regs 1025 && (inB C.attr 9 && (inB C.unif 33 && inB C.vary 5))
  else if C.stage = 2 then inB C.regs 1025 && (inB C.attr 1 && (inB C.unif 33 && inB C.vary 5))
  else false
def zI : Nat → Int := fun _ => 0
/-- May the first m instructions be? -/
def mayTo (C : Cod) (m : Nat) : Bool := (List.range m).all fun k => insB C C.ins.length k (C.ins.getD k zI)
/-- May a code be? -/
def mayP (C : Cod) : Bool := headB C && (decide (C.ins.length ≤ 4096) && mayTo C C.ins.length)
theorem mayTo_succ (C : Cod) (m : Nat) : mayTo C (m + 1) = (mayTo C m && insB C C.ins.length m (C.ins.getD m zI)) := by
  unfold mayTo
  rw [List.range_succ, List.all_append]
  simp
theorem mayTo_false {C : Cod} {k n : Nat} (h : insB C C.ins.length k (C.ins.getD k zI) = false) (hk : k < n) : mayTo C n = false := by
  unfold mayTo
  rw [List.all_eq_false]
  exact ⟨k, List.mem_range.2 hk, by rw [h]; decide⟩
theorem mayTo_at {C : Cod} {k n : Nat} (h : mayTo C n = true) (hk : k < n) : insB C C.ins.length k (C.ins.getD k zI) = true := by
  unfold mayTo at h
  exact List.all_eq_true.1 h k (List.mem_range.2 hk)

/-- Where the instruction at the place k leads to. -/
def nextP (I : Nat → Int) (k : Nat) : List Int :=
  if I 0 = 10 then [I 5] else if I 0 = 11 then [I 5, (k : Int) + 1] else if I 0 = 12 then [] else [(k : Int) + 1]
def markL (r : List Bool) : List Int → List Bool
  | [] => r
  | x :: t => markL (r.set x.toNat true) t
def stepR (r : List Bool) (I : Nat → Int) (k : Nat) : List Bool := if r.getD k false then markL r (nextP I k) else r
/-- What can be come to, the first k instructions done. -/
def reachTo (L : List (Nat → Int)) : Nat → List Bool
  | 0 => (List.replicate (L.length + 1) false).set 0 true
  | k + 1 => stepR (reachTo L k) (L.getD k zI) k
def reachP (L : List (Nat → Int)) : List Bool := reachTo L L.length
theorem markL_len (r : List Bool) (l : List Int) : (markL r l).length = r.length := by
  induction l generalizing r with
  | nil => rfl
  | cons x t ih => rw [markL, ih, List.length_set]
theorem reachTo_len (L : List (Nat → Int)) (k : Nat) : (reachTo L k).length = L.length + 1 := by
  induction k with
  | zero => simp [reachTo]
  | succ k ih =>
    rw [reachTo, stepR]
    split
    · rw [markL_len, ih]
    · exact ih
end Go.Proofs.Ytfoffnbkfnbglaa
