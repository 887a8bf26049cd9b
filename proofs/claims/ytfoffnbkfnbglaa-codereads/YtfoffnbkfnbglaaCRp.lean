/-
  Which instructions may be, plainly, as the document asks it.
-/
import Derived.Test.YtfoffnbkfnbglaaCRa
namespace Go.Proofs.Ytfoffnbkfnbglaa
open Go.RowKit
set_option linter.unusedVariables false
set_option linter.unusedSimpArgs false

def ofR (l : List Int) (k : Nat) : Int := l.getD k 0
theorem ofR_at (l : List Int) (k : Nat) : ofR l k = l.getD k 0 := rfl
theorem sameR (I J : Nat → Int) : sameI I J = true ↔ I 0 = J 0 ∧ I 1 = J 1 ∧ I 2 = J 2 ∧ I 3 = J 3 ∧ I 4 = J 4 ∧ I 5 = J 5 ∧ I 6 = J 6 ∧ I 7 = J 7 ∧ I 8 = J 8 ∧ I 9 = J 9 ∧ I 10 = J 10 ∧ I 11 = J 11 ∧ I 12 = J 12 ∧ I 13 = J 13 ∧ I 14 = J 14 ∧ I 15 = J 15 := by
  simp [sameI]
theorem zcomm (x : Int) : (0 = x) ↔ (x = 0) := eq_comm
def loadR (C : Cod) (I : Nat → Int) : Bool :=
  if I 1 = 1 then C.stage == 1 && inB (I 5) C.attr
  else if I 1 = 2 then inB (I 5) C.unif
  else if I 1 = 3 then !(C.stage == 1) && inB (I 5) C.vary
  else if I 1 = 4 ∨ I 1 = 5 ∨ I 1 = 6 then !(C.stage == 1) && I 5 == 0
  else false
def storR (C : Cod) (I : Nat → Int) : Bool :=
  if I 1 = 1 ∨ I 1 = 2 then C.stage == 1 && I 5 == 0
  else if I 1 = 3 then C.stage == 1 && inB (I 5) C.vary
  else if I 1 = 4 then !(C.stage == 1) && I 5 == 0
  else false
theorem st_two (C : Cod) (h : C.stage = 1 ∨ C.stage = 2) : (!(C.stage == 1)) = (C.stage == 2) := by rcases h with h | h <;> rw [h] <;> rfl
theorem loadR_eq (C : Cod) (I : Nat → Int) (h : C.stage = 1 ∨ C.stage = 2) : loadR C I = loadB C I := by unfold loadR loadB; rw [st_two C h]
theorem storR_eq (C : Cod) (I : Nat → Int) (h : C.stage = 1 ∨ C.stage = 2) : storR C I = storB C I := by unfold storR storB; rw [st_two C h]
theorem inB04 : inB 0 4 = true := rfl
theorem range4 : List.range 4 = [0, 1, 2, 3] := rfl
theorem range3 : List.range 3 = [0, 1, 2] := rfl
theorem range2 : List.range 2 = [0, 1] := rfl
theorem range1 : List.range 1 = [0] := rfl
section
variable (C : Cod) (n k : Nat) (I : Nat → Int)
theorem rightP_1 (hst : C.stage = 1 ∨ C.stage = 2) (h : I 0 = 1) : insB C n k I = (inB (I 4) C.regs && sameI (ofR [1, 0, 0, 0, I 4, 0, 0, 0, I 8, I 9, I 10, I 11, 0, 0, 0, 0]) I) := by
  rw [Bool.eq_iff_iff]
  simp [insB, rgsB, fldB, readsP, writI, wrB, h, sameR, justP, keeps, ofR, zcomm]
  constructor <;> (intro hh; simp_all)
theorem rightP_2 (hst : C.stage = 1 ∨ C.stage = 2) (h : I 0 = 2) : insB C n k I = ((inB (I 4) C.regs && inB (I 5) C.regs) && sameI (ofR [2, 0, 0, 0, I 4, I 5, 0, 0, 0, 0, 0, 0, 0, 0, 0, 0]) I) := by
  rw [Bool.eq_iff_iff]
  simp [insB, rgsB, fldB, readsP, writI, wrB, h, sameR, justP, keeps, ofR, zcomm]
  constructor <;> (intro hh; simp_all)
theorem rightP_3 (hst : C.stage = 1 ∨ C.stage = 2) (h : I 0 = 3) : insB C n k I = ((loadR C I && inB (I 4) C.regs) && sameI (ofR [3, I 1, 0, 0, I 4, I 5, 0, 0, 0, 0, 0, 0, 0, 0, 0, 0]) I) := by
  rw [loadR_eq C I hst, Bool.eq_iff_iff]
  simp [insB, rgsB, fldB, readsP, writI, wrB, h, sameR, justP, keeps, ofR, zcomm]
  constructor <;> (intro hh; simp_all)
theorem rightP_4 (hst : C.stage = 1 ∨ C.stage = 2) (h : I 0 = 4) : insB C n k I = ((storR C I && inB (I 6) C.regs) && sameI (ofR [4, I 1, 0, 0, 0, I 5, I 6, 0, 0, 0, 0, 0, 0, 0, 0, 0]) I) := by
  rw [storR_eq C I hst, Bool.eq_iff_iff]
  simp [insB, rgsB, fldB, readsP, writI, wrB, h, sameR, justP, keeps, ofR, zcomm]
  constructor <;> (intro hh; simp_all)
theorem rightP_5 (m : Nat) (hm : argsP (I 1) (I 2) = m) (h : I 0 = 5) : insB C n k I = ((decide (0 < m) && (decide (1 ≤ I 3) && (decide (I 3 ≤ 4) && (inB (I 4) C.regs && (inB (I 5) C.regs && ((decide (m < 2) || inB (I 6) C.regs) && (decide (m < 3) || inB (I 7) C.regs))))))) && sameI (ofR [5, I 1, I 2, I 3, I 4, I 5, if 1 < m then I 6 else 0, if 2 < m then I 7 else 0, 0, 0, 0, 0, 0, 0, 0, 0]) I) := by
  have hl := argsP_le (I 1) (I 2)
  rw [hm] at hl
  rw [Bool.eq_iff_iff]
  rcases (by omega : m = 0 ∨ m = 1 ∨ m = 2 ∨ m = 3) with rfl | rfl | rfl | rfl
  all_goals
    simp [insB, rgsB, fldB, readsP, writI, wrB, h, hm, sameR, justP, keeps, ofR, zcomm, cntB]
    try (constructor <;> (intro hh; simp_all))
theorem rightP_6 (hst : C.stage = 1 ∨ C.stage = 2) (h : I 0 = 6) : insB C n k I = ((inB (I 4) C.regs && (inB (I 5) C.regs && (cntB (I 3) && plTo I true 4))) && sameI (ofR [6, 0, 0, I 3, I 4, I 5, 0, 0, 0, 0, 0, 0, I 12, I 13, I 14, I 15]) I) := by
  by_cases hc : 1 ≤ I 3 ∧ I 3 ≤ 4
  · rw [Bool.eq_iff_iff]
    rcases (by omega : I 3 = 1 ∨ I 3 = 2 ∨ I 3 = 3 ∨ I 3 = 4) with h3 | h3 | h3 | h3
    all_goals
      simp [insB, rgsB, fldB, readsP, writI, wrB, h, h3, sameR, justP, keeps, ofR, zcomm, cntB, plTo, plAt, plIn, range4, plcB]
      constructor <;> (intro hh; simp_all [inB04])
  · have e : cntB (I 3) = false := by
      rw [Bool.eq_false_iff]
      simp [cntB]
      omega
    simp [insB, fldB, h, e]
theorem rightP_7 (hst : C.stage = 1 ∨ C.stage = 2) (h : I 0 = 7) : insB C n k I = ((inB (I 4) C.regs && (inB (I 5) C.regs && (cntB (I 3) && plTo I false 4))) && sameI (ofR [7, 0, 0, I 3, I 4, I 5, 0, 0, 0, 0, 0, 0, I 12, I 13, I 14, I 15]) I) := by
  by_cases hc : 1 ≤ I 3 ∧ I 3 ≤ 4
  · rw [Bool.eq_iff_iff]
    rcases (by omega : I 3 = 1 ∨ I 3 = 2 ∨ I 3 = 3 ∨ I 3 = 4) with h3 | h3 | h3 | h3
    all_goals
      simp [insB, rgsB, fldB, readsP, writI, wrB, h, h3, sameR, justP, keeps, ofR, zcomm, cntB, plTo, plAt, plIn, range4, range3, range2, range1, plcB, plcs, twB]
      constructor <;> (intro hh; simp_all [inB04])
  · have e : cntB (I 3) = false := by
      rw [Bool.eq_false_iff]
      simp [cntB]
      omega
    simp [insB, fldB, h, e]
theorem rightP_8 (hst : C.stage = 1 ∨ C.stage = 2) (h : I 0 = 8) : insB C n k I = ((inB (I 4) C.regs && (inB (I 5) C.regs && (decide (1 ≤ I 3) && (decide (I 3 ≤ 4) && (baseB (I 2) && baseB (I 1)))))) && sameI (ofR [8, I 1, I 2, I 3, I 4, I 5, 0, 0, 0, 0, 0, 0, 0, 0, 0, 0]) I) := by
  rw [Bool.eq_iff_iff]
  simp [insB, rgsB, fldB, readsP, writI, wrB, h, sameR, justP, keeps, ofR, zcomm, cntB]
  constructor <;> (intro hh; simp_all)
theorem rightP_9 (hst : C.stage = 1 ∨ C.stage = 2) (h : I 0 = 9) : insB C n k I = ((inB (I 4) C.regs && (inB (I 5) C.regs && inB (I 6) C.regs)) && sameI (ofR [9, 0, 0, 0, I 4, I 5, I 6, 0, 0, 0, 0, 0, 0, 0, 0, 0]) I) := by
  rw [Bool.eq_iff_iff]
  simp [insB, rgsB, fldB, readsP, writI, wrB, h, sameR, justP, keeps, ofR, zcomm]
  constructor <;> (intro hh; simp_all)
theorem rightP_10 (hst : C.stage = 1 ∨ C.stage = 2) (h : I 0 = 10) : insB C n k I = ((decide ((k : Int) < I 5) && decide (I 5 ≤ (n : Int))) && sameI (ofR [10, 0, 0, 0, 0, I 5, 0, 0, 0, 0, 0, 0, 0, 0, 0, 0]) I) := by
  rw [Bool.eq_iff_iff]
  simp [insB, rgsB, fldB, readsP, writI, wrB, h, sameR, justP, keeps, ofR, zcomm]
  constructor <;> (intro hh; simp_all)
theorem rightP_11 (hst : C.stage = 1 ∨ C.stage = 2) (h : I 0 = 11) : insB C n k I = ((decide ((k : Int) < I 5) && (decide (I 5 ≤ (n : Int)) && inB (I 6) C.regs)) && sameI (ofR [11, 0, 0, 0, 0, I 5, I 6, 0, 0, 0, 0, 0, 0, 0, 0, 0]) I) := by
  rw [Bool.eq_iff_iff]
  simp [insB, rgsB, fldB, readsP, writI, wrB, h, sameR, justP, keeps, ofR, zcomm]
  constructor <;> (intro hh; simp_all)
theorem rightP_12 (hst : C.stage = 1 ∨ C.stage = 2) (h : I 0 = 12) : insB C n k I = ((!(C.stage == 1)) && sameI (ofR [12, 0, 0, 0, 0, 0, 0, 0, 0, 0, 0, 0, 0, 0, 0, 0]) I) := by
  rw [st_two C hst, Bool.eq_iff_iff]
  simp [insB, rgsB, fldB, readsP, writI, wrB, h, sameR, justP, keeps, ofR, zcomm]
  constructor <;> (intro hh; simp_all)
theorem rightP_x (h : ¬ (1 ≤ I 0 ∧ I 0 ≤ 12)) : insB C n k I = false := by
  unfold insB fldB
  rw [if_neg (by omega), if_neg (by omega), if_neg (by omega), if_neg (by omega), if_neg (by omega), if_neg (by omega), if_neg (by omega), if_neg (by omega), if_neg (by omega)]
  simp
end
section
variable {P : Program} {w : World} {ops : Array Oper} {rest : List Oper} {o : Oper} {a : Act} {Q : Exit → Act → World → Prop}
theorem wpList_load_row_wantR (hw : Region.wanted o (yielded ops a.tmps) = true) (ty : TypeId) (x : Operand) (ho : o.op = .load ty x)
    (g : Nat) (hx : a.eval x = .pointer (some ⟨g, 0, none⟩)) (t : TypeId) (cs : Array Value) (fr : Nat × Nat) (d : TypeDesc) (hg : w.heap[g]? = some (.cells cs t fr))
    (hu : P.underlying ty = some d) (hd : (match d with | .struct _ | .array _ _ => true | _ => false) = true) (hi : (P.info? ty).map (·.size) = some cs.size)
    (h : wpList P ops Q rest (a.put o.dst (.agg cs)) w) : wpList P ops Q (o :: rest) a w :=
  BigFrame.wpList_want hw fun _ hK => wp_load_row ty x ho g hx t cs fr d hg hu hd hi (hK _ _ h)
theorem wpList_eq_wantR (hw : Region.wanted o (yielded ops a.tmps) = true) (x y : Operand) (t t' : TypeId) (xs ys : Array Value) (b : Bool) (ho : o.op = .binOp .eql t x y t') (hx : a.eval x = .agg xs) (hy : a.eval y = .agg ys)
    (hg : P.eqGuardType P.depth t = false) (he : (Op.equalIn 10000 t (.agg xs) (.agg ys)).run P w = .ok b w)
    (h : wpList P ops Q rest (a.put o.dst (.bool b)) w) : wpList P ops Q (o :: rest) a w :=
  BigFrame.wpList_want hw fun _ hK => by
    unfold Oper.wp
    rw [exec_eq _ o x y t t' xs ys b ho hx hy hg he]
    exact hK _ _ h
end
end Go.Proofs.Ytfoffnbkfnbglaa
