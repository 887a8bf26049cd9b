/-
  The document's Args, Writes, Reads. What the dump lacks is left out.
-/
import Derived.Test.YtglfhmlcmffoaaaGreatPGJ
namespace Go.Proofs.YtglfhmlcmffoaaaGreat
open Go.RowKit
set_option linter.unusedVariables false
set_option linter.unusedSimpArgs false

set_option maxRecDepth 10000 in
set_option maxHeartbeats 8000000 in
theorem refArgs_any (f b : Int) (w : World) : Calls Tryz.prog 33 #[.int .i64 f, .int .i64 b] w fun e w' => e = .returned (.int .i64 (argsP f b : Int)) ∧ w' = w := by
  have E2 : Hid (argsP f b = if 1 ≤ f ∧ f ≤ 21 then (if b = 1 then fargs f else 0)
    else if f = 28 then (if b = 1 ∨ b = 2 then 1 else 0)
    else if 24 ≤ f ∧ f ≤ 32 then (if b = 1 ∨ b = 2 then 2 else 0)
    else if f = 33 ∨ f = 34 then (if b = 1 ∨ b = 2 ∨ b = 3 then 2 else 0)
    else if f = 35 then (if b = 3 then 1 else 0)
    else 0) := rfl
  have E3 : Hid (fargs f = if (12 ≤ f ∧ f ≤ 16) ∨ f = 19 ∨ f = 21 then 2 else if f = 17 ∨ f = 18 then 3 else 1) := rfl
  generalize argsP f b = y at *
  generalize fargs f = z at *
  have hb : b = 1 ∨ b = 2 ∨ b = 3 ∨ (¬ b = 1 ∧ ¬ b = 2 ∧ ¬ b = 3) := by omega
  have hf : (1 ≤ f ∧ f ≤ 11) ∨ (12 ≤ f ∧ f ≤ 16) ∨ f = 17 ∨ f = 18 ∨ f = 19 ∨ f = 20 ∨ f = 21 ∨ f = 28 ∨ (24 ≤ f ∧ f ≤ 27) ∨ (29 ≤ f ∧ f ≤ 32) ∨ f = 33 ∨ f = 34 ∨ f = 35 ∨ f < 1 ∨ (22 ≤ f ∧ f ≤ 23) ∨ 35 < f := by omega
  rcases hb with rfl | rfl | rfl | ⟨b1, b2, b3⟩
  all_goals
    rcases hf with ⟨h1, h2⟩ | ⟨h1, h2⟩ | rfl | rfl | rfl | rfl | rfl | rfl | ⟨h1, h2⟩ | ⟨h1, h2⟩ | rfl | rfl | rfl | h1 | ⟨h1, h2⟩ | h1
  all_goals
    try
      have b1' : (b == 1) = false := beq_eq_false_iff_ne.2 b1
      have b2' : (b == 2) = false := beq_eq_false_iff_ne.2 b2
      have b3' : (b == 3) = false := beq_eq_false_iff_ne.2 b3
  all_goals
    try have q17 : (f == 17) = false := beq_eq_false_iff_ne.2 (by omega)
    try have q18 : (f == 18) = false := beq_eq_false_iff_ne.2 (by omega)
    try have q19 : (f == 19) = false := beq_eq_false_iff_ne.2 (by omega)
    try have q20 : (f == 20) = false := beq_eq_false_iff_ne.2 (by omega)
    try have q21 : (f == 21) = false := beq_eq_false_iff_ne.2 (by omega)
    try have q28 : (f == 28) = false := beq_eq_false_iff_ne.2 (by omega)
    try have q33 : (f == 33) = false := beq_eq_false_iff_ne.2 (by omega)
    try have q34 : (f == 34) = false := beq_eq_false_iff_ne.2 (by omega)
    try have q35 : (f == 35) = false := beq_eq_false_iff_ne.2 (by omega)
    go_enter Tryz.func33, Tryz.ntmps33
    go_wp2
    go_ret
    refine ⟨?_, rfl⟩
    have e := unhide E2
    have e3 := unhide E3
    try simp at e
    try simp at e3
    first
    | (rw [e]; rfl)
    | (rw [e, e3]; rfl)
    | (repeat first | rw [if_pos (by omega)] at e | rw [if_neg (by omega)] at e
       repeat first | rw [if_pos (by omega)] at e3 | rw [if_neg (by omega)] at e3
       first | (rw [e]; rfl) | (rw [e, e3]; rfl))

/-- What a call leaves that answers a row of numbers. -/
def RowI (w w' : World) (e : Ending) (xs : List Int) : Prop := ∃ ao cap, e = .returned (.slice ao xs.length cap) ∧ Row .i64 w' (.slice ao xs.length cap) xs ∧ Ext w w'

end Go.Proofs.YtglfhmlcmffoaaaGreat
