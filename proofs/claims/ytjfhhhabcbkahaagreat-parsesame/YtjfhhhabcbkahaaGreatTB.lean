/-
  Words: types' and reserved ones.
-/
import Derived.Test.YtjfhhhabcbkahaaGreatTA
import Derived.Test.YtjfhhhabcbkahaaGreatXM
namespace Go.Proofs.YtjfhhhabcbkahaaGreat
open Go.RowKit
set_option linter.unusedVariables false
set_option linter.unusedSimpArgs false

set_option maxHeartbeats 4000000 in
set_option maxRecDepth 100000 in
theorem typeW_any (t : Byts8) (w : World) : Calls Tryz.prog 59 #[.string ⟨t.toArray⟩] w fun e w' => e = .returned (.bool (isTypeW t)) ∧ w' = w := by
  by_cases h : typesW.contains t = true
  · have h2 : t ∈ typesW := by simpa using h
    unfold typesW at h2
    simp only [List.mem_cons, List.not_mem_nil, or_false] at h2
    clear h
    rcases h2 with rfl | rfl | rfl | rfl | rfl | rfl | rfl | rfl | rfl | rfl | rfl | rfl | rfl | rfl <;>
    · go_enter Tryz.func59, Tryz.ntmps59
      go_wp2
      go_ret
      exact ⟨rfl, rfl⟩
  · have h2 : ∀ x ∈ typesW, (t == x) = false := fun x hx => beq_eq_false_iff_ne.2 (fun e => h (by subst e; simpa using hx))
    have f0 := h2 [118, 111, 105, 100] (by decide)
    have f1 := h2 [102, 108, 111, 97, 116] (by decide)
    have f2 := h2 [118, 101, 99, 50] (by decide)
    have f3 := h2 [118, 101, 99, 51] (by decide)
    have f4 := h2 [118, 101, 99, 52] (by decide)
    have f5 := h2 [105, 110, 116] (by decide)
    have f6 := h2 [105, 118, 101, 99, 50] (by decide)
    have f7 := h2 [105, 118, 101, 99, 51] (by decide)
    have f8 := h2 [105, 118, 101, 99, 52] (by decide)
    have f9 := h2 [98, 111, 111, 108] (by decide)
    have f10 := h2 [98, 118, 101, 99, 50] (by decide)
    have f11 := h2 [98, 118, 101, 99, 51] (by decide)
    have f12 := h2 [98, 118, 101, 99, 52] (by decide)
    have f13 := h2 [115, 97, 109, 112, 108, 101, 114, 50, 68] (by decide)
    have hf : isTypeW t = false := by unfold isTypeW; simpa using h
    rw [hf]
    clear h h2 hf
    go_enter Tryz.func59, Tryz.ntmps59
    go_wp2
    go_ret
    exact ⟨rfl, rfl⟩

set_option maxHeartbeats 4000000 in
set_option maxRecDepth 100000 in
theorem resW_any (t : Byts8) (w : World) : Calls Tryz.prog 102 #[.string ⟨t.toArray⟩] w fun e w' => e = .returned (.bool (isResW t)) ∧ w' = w := by
  by_cases h : resW.contains t = true
  · have h2 : t ∈ resW := by simpa using h
    unfold resW at h2
    simp only [List.mem_cons, List.not_mem_nil, or_false] at h2
    clear h
    rcases h2 with rfl | rfl | rfl | rfl | rfl | rfl | rfl | rfl | rfl | rfl | rfl | rfl | rfl | rfl | rfl | rfl | rfl | rfl | rfl | rfl | rfl | rfl | rfl <;>
    · go_enter Tryz.func102, Tryz.ntmps102
      go_wp2
      go_ret
      exact ⟨rfl, rfl⟩
  · have h2 : ∀ x ∈ resW, (t == x) = false := fun x hx => beq_eq_false_iff_ne.2 (fun e => h (by subst e; simpa using hx))
    have f0 := h2 [97, 116, 116, 114, 105, 98, 117, 116, 101] (by decide)
    have f1 := h2 [117, 110, 105, 102, 111, 114, 109] (by decide)
    have f2 := h2 [118, 97, 114, 121, 105, 110, 103] (by decide)
    have f3 := h2 [99, 111, 110, 115, 116] (by decide)
    have f4 := h2 [105, 102] (by decide)
    have f5 := h2 [101, 108, 115, 101] (by decide)
    have f6 := h2 [102, 111, 114] (by decide)
    have f7 := h2 [114, 101, 116, 117, 114, 110] (by decide)
    have f8 := h2 [100, 105, 115, 99, 97, 114, 100] (by decide)
    have f9 := h2 [116, 114, 117, 101] (by decide)
    have f10 := h2 [102, 97, 108, 115, 101] (by decide)
    have f11 := h2 [119, 104, 105, 108, 101] (by decide)
    have f12 := h2 [100, 111] (by decide)
    have f13 := h2 [98, 114, 101, 97, 107] (by decide)
    have f14 := h2 [99, 111, 110, 116, 105, 110, 117, 101] (by decide)
    have f15 := h2 [105, 110] (by decide)
    have f16 := h2 [111, 117, 116] (by decide)
    have f17 := h2 [105, 110, 111, 117, 116] (by decide)
    have f18 := h2 [115, 116, 114, 117, 99, 116] (by decide)
    have f19 := h2 [112, 114, 101, 99, 105, 115, 105, 111, 110] (by decide)
    have f20 := h2 [108, 111, 119, 112] (by decide)
    have f21 := h2 [109, 101, 100, 105, 117, 109, 112] (by decide)
    have f22 := h2 [104, 105, 103, 104, 112] (by decide)
    have hf : isResW t = isTypeW t := by unfold isResW; rw [show resW.contains t = false by simpa using h]; rfl
    rw [hf]
    clear h h2 hf
    go_enter Tryz.func102, Tryz.ntmps102
    go_wp2_with (go_at_call 59; refine (typeW_any t w).mono ?_; rintro e w1 ⟨rfl, rfl⟩)
    go_ret
    exact ⟨rfl, rfl⟩
end Go.Proofs.YtjfhhhabcbkahaaGreat
