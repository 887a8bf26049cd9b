/-
  Codes that may be: what follows for their instructions.
-/
import Derived.Test.YtfoffnbkfnbglaaCFw
import Derived.Test.YtfoffnbkfnbglaaCW
namespace Go.Proofs.Ytfoffnbkfnbglaa
open Go.RowKit
set_option linter.unusedVariables false
set_option linter.unusedSimpArgs false

theorem inB_iff (x n : Int) : inB x n = true ↔ 0 ≤ x ∧ x < n := by simp [inB]
theorem may_regs {C : Cod} (h : mayP C = true) : C.ins.length ≤ 4096 ∧ 0 ≤ C.regs ∧ C.regs ≤ 1024 := by
  simp only [mayP, Bool.and_eq_true, decide_eq_true_eq] at h
  refine ⟨h.2.1, ?_⟩
  have h1 := h.1
  unfold headB at h1
  split at h1
  · simp only [Bool.and_eq_true, inB_iff] at h1
    omega
  · split at h1
    · simp only [Bool.and_eq_true, inB_iff] at h1
      omega
    · cases h1
theorem may_ins {C : Cod} (h : mayP C = true) (k : Nat) (hk : k < C.ins.length) : (∀ r ∈ readsP C.ins[k], 0 ≤ r ∧ r < C.regs) ∧ (wrB (C.ins[k] 0) = true → 0 ≤ writI C.ins[k] ∧ writI C.ins[k] < C.regs) ∧ ((C.ins[k] 0 = 10 ∨ C.ins[k] 0 = 11) → (k : Int) < C.ins[k] 5 ∧ C.ins[k] 5 ≤ (C.ins.length : Int)) := by
  simp only [mayP, Bool.and_eq_true] at h
  have h2 := mayTo_at h.2.2 hk
  rw [show C.ins.getD k zI = C.ins[k] by simp [hk]] at h2
  generalize C.ins[k] = I at *
  simp only [insB, Bool.and_eq_true] at h2
  obtain ⟨h3, h4, h5⟩ := h2
  simp only [rgsB, Bool.and_eq_true, List.all_eq_true, Bool.or_eq_true] at h4
  refine ⟨fun r hr => (inB_iff _ _).1 (h4.1 r hr), fun hw => ?_, fun hj => ?_⟩
  · rcases h4.2 with h6 | h6
    · rw [hw] at h6; cases h6
    · exact (inB_iff _ _).1 h6
  · unfold fldB at h5
    rw [if_neg (by omega), if_neg (by omega), if_neg (by omega), if_neg (by omega), if_neg (by omega), if_neg (by omega), if_neg (by omega), if_pos hj] at h5
    simpa using h5
/-- What few answers, as a code that is read. -/
theorem few_ir {w w' : World} {C : Cod} {am : Option Addr} {cm : Nat} (h : OI w' w.heap.size (.slice am ((fewC C).ins.length + 1) cm) ((fewC C).ins ++ [i77])) : IR w' (.slice am (fewC C).ins.length cm) (fewC C).ins := by
  have h1 := h.ir
  have h2 := h1.take (fewC C).ins.length (by simp)
  simpa using h2
theorem few_ok {C : Cod} (h : ∀ I ∈ C.ins, OkI I) : ∀ I ∈ (fewC C).ins, OkI I := fun I hI => h I (List.mem_of_mem_take hI)
end Go.Proofs.Ytfoffnbkfnbglaa
