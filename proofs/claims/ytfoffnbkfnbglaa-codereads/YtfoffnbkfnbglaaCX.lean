/-
  Codes, plainly: what hangs on the sixteen numbers of instructions alone; the code of wakes.
-/
import Derived.Test.YtfoffnbkfnbglaaCV
import Derived.Test.YtfoffnbkfnbglaaCN
namespace Go.Proofs.Ytfoffnbkfnbglaa
open Go.RowKit
set_option linter.unusedVariables false
set_option linter.unusedSimpArgs false

theorem insB_congr (C D : Cod) (n k : Nat) (I J : Nat → Int) (h1 : C.stage = D.stage) (h2 : C.regs = D.regs) (h3 : C.attr = D.attr) (h4 : C.unif = D.unif) (h5 : C.vary = D.vary) (h : ∀ i, i < 16 → I i = J i) : insB C n k I = insB D n k J := by
  have e0 := h 0 (by omega)
  have e1 := h 1 (by omega)
  have e2 := h 2 (by omega)
  have e3 := h 3 (by omega)
  have e4 := h 4 (by omega)
  have e5 := h 5 (by omega)
  have e6 := h 6 (by omega)
  have e7 := h 7 (by omega)
  have e8 := h 8 (by omega)
  have e9 := h 9 (by omega)
  have e10 := h 10 (by omega)
  have e11 := h 11 (by omega)
  have e12 := h 12 (by omega)
  have e13 := h 13 (by omega)
  have e14 := h 14 (by omega)
  have e15 := h 15 (by omega)
  unfold insB sameI justP keeps rgsB readsP writI fldB loadB storB plcB plcs
  simp only [e0, e1, e2, e3, e4, e5, e6, e7, e8, e9, e10, e11, e12, e13, e14, e15, h1, h2, h3, h4, h5]
theorem sameI_iff (I J : Nat → Int) : sameI I J = true ↔ ∀ i, i < 16 → I i = J i := by
  unfold sameI
  simp only [Bool.and_eq_true, beq_iff_eq]
  constructor
  · rintro ⟨h0, h1, h2, h3, h4, h5, h6, h7, h8, h9, h10, h11, h12, h13, h14, h15⟩ i hi
    rcases (by omega : i = 0 ∨ i = 1 ∨ i = 2 ∨ i = 3 ∨ i = 4 ∨ i = 5 ∨ i = 6 ∨ i = 7 ∨ i = 8 ∨ i = 9 ∨ i = 10 ∨ i = 11 ∨ i = 12 ∨ i = 13 ∨ i = 14 ∨ i = 15) with rfl | rfl | rfl | rfl | rfl | rfl | rfl | rfl | rfl | rfl | rfl | rfl | rfl | rfl | rfl | rfl <;> assumption
  · intro h
    exact ⟨h 0 (by omega), h 1 (by omega), h 2 (by omega), h 3 (by omega), h 4 (by omega), h 5 (by omega), h 6 (by omega), h 7 (by omega), h 8 (by omega), h 9 (by omega), h 10 (by omega), h 11 (by omega), h 12 (by omega), h 13 (by omega), h 14 (by omega), h 15 (by omega)⟩
theorem sameC_iff (C D : Cod) : sameC C D = true ↔ C.stage = D.stage ∧ C.regs = D.regs ∧ C.attr = D.attr ∧ C.unif = D.unif ∧ C.vary = D.vary ∧ C.ins.length = D.ins.length ∧ ∀ k, k < C.ins.length → ∀ i, i < 16 → (C.ins.getD k zI) i = (D.ins.getD k zI) i := by
  unfold sameC sameL sameTo
  simp only [Bool.and_eq_true, beq_iff_eq, decide_eq_true_eq, List.all_eq_true, List.mem_range, sameI_iff]
theorem may_congr (C D : Cod) (h : sameC C D = true) : mayP C = mayP D := by
  obtain ⟨h1, h2, h3, h4, h5, h6, h7⟩ := (sameC_iff C D).1 h
  unfold mayP headB mayTo
  rw [h1, h2, h3, h4, h5, ← h6]
  congr 2
  rw [Bool.eq_iff_iff, List.all_eq_true, List.all_eq_true]
  constructor
  · intro ha k hk
    rw [← ha k hk]
    exact (insB_congr C D _ _ _ _ h1 h2 h3 h4 h5 (h7 k (List.mem_range.1 hk))).symm
  · intro ha k hk
    rw [← ha k hk]
    exact insB_congr C D _ _ _ _ h1 h2 h3 h4 h5 (h7 k (List.mem_range.1 hk))
/-- The instruction j of bytes, number by number. -/
theorem insX_at (bs : List Int) (j i : Nat) (hi : i < 16) (h : 28 + 64 * (j + 1) ≤ bs.length) : insX bs 28 0 j i = if 8 ≤ i ∧ i < 12 then sg (numA bs (28 + 64 * j + 4 * i)) else numA bs (28 + 64 * j + 4 * i) := by
  unfold insX ofV
  rw [insS_full bs j (by omega)]
  simp only
  rw [rdV_full bs (28 + 64 * j) i (by omega)]

def wI1 : Nat → Int := fun k => if k = 0 ∨ k = 4 then 1 else 0
def wI2 : Nat → Int := fun k => if k = 0 then 4 else if k = 1 ∨ k = 6 then 1 else 0
def wC : Cod := ⟨1, 2, 0, 0, 0, [wI1, wI2]⟩
def wB : List Int := [80, 80, 65, 67, 1, 0, 0, 0, 2, 0, 0, 0, 0, 0, 0, 0, 0, 0, 0, 0, 0, 0, 0, 0, 2, 0, 0, 0, 1, 0, 0, 0, 0, 0, 0, 0, 0, 0, 0, 0, 0, 0, 0, 0, 1, 0, 0, 0, 0, 0, 0, 0, 0, 0, 0, 0, 0, 0, 0, 0, 0, 0, 0, 0, 0, 0, 0, 0, 0, 0, 0, 0, 0, 0, 0, 0, 0, 0, 0, 0, 0, 0, 0, 0, 0, 0, 0, 0, 0, 0, 0, 0, 4, 0, 0, 0, 1, 0, 0, 0, 0, 0, 0, 0, 0, 0, 0, 0, 0, 0, 0, 0, 0, 0, 0, 0, 1, 0, 0, 0, 0, 0, 0, 0, 0, 0, 0, 0, 0, 0, 0, 0, 0, 0, 0, 0, 0, 0, 0, 0, 0, 0, 0, 0, 0, 0, 0, 0, 0, 0, 0, 0, 0, 0, 0, 0]
theorem wB_eq : bytP wC = wB := by kernel_rfl
theorem wMay : mayP wC = true := by kernel_rfl
theorem wZero : mayP zC = false := by kernel_rfl
set_option maxRecDepth 10000 in
theorem wSame : sameC wC (codA wB) = true := by
  have hl : wB.length = 156 := rfl
  have hn : nI wB = 2 := rfl
  have e : codA wB = ⟨1, 2, 0, 0, 0, insL wB 28 0 2⟩ := by unfold codA; rw [hn]; congr 1
  rw [e, sameC_iff]
  refine ⟨rfl, rfl, rfl, rfl, rfl, rfl, fun k hk i hi => ?_⟩
  have hk2 : k < 2 := hk
  rcases (by omega : k = 0 ∨ k = 1) with rfl | rfl
  · show wI1 i = insX wB 28 0 0 i
    rw [insX_at wB 0 i hi (by rw [hl]; omega)]
    rcases (by omega : i = 0 ∨ i = 1 ∨ i = 2 ∨ i = 3 ∨ i = 4 ∨ i = 5 ∨ i = 6 ∨ i = 7 ∨ i = 8 ∨ i = 9 ∨ i = 10 ∨ i = 11 ∨ i = 12 ∨ i = 13 ∨ i = 14 ∨ i = 15) with rfl | rfl | rfl | rfl | rfl | rfl | rfl | rfl | rfl | rfl | rfl | rfl | rfl | rfl | rfl | rfl <;> kernel_rfl
  · show wI2 i = insX wB 28 0 1 i
    rw [insX_at wB 1 i hi (by rw [hl]; omega)]
    rcases (by omega : i = 0 ∨ i = 1 ∨ i = 2 ∨ i = 3 ∨ i = 4 ∨ i = 5 ∨ i = 6 ∨ i = 7 ∨ i = 8 ∨ i = 9 ∨ i = 10 ∨ i = 11 ∨ i = 12 ∨ i = 13 ∨ i = 14 ∨ i = 15) with rfl | rfl | rfl | rfl | rfl | rfl | rfl | rfl | rfl | rfl | rfl | rfl | rfl | rfl | rfl | rfl <;> kernel_rfl
theorem wDec : decB wB = true := by
  unfold decB
  rw [← may_congr wC (codA wB) wSame, wMay]
  kernel_rfl
end Go.Proofs.Ytfoffnbkfnbglaa
