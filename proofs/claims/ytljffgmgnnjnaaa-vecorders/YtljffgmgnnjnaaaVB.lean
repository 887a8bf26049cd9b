/-
  Vectors: the operations of two and of one, by component, and All.
-/
import Derived.Test.YtljffgmgnnjnaaaVA
namespace Go.Proofs.Ytljffgmgnnjnaaa
open Go.RowKit
set_option linter.unusedVariables false

theorem two1_any (i : Nat) (hi : i < 4) (g : FuncId) (F : Int → Int → Int) (a b : Nat → Int) (bd ba bb : Nat) (w : World)
    (eg : ∀ args w, (callFunc g args).run Try.prog w = .ok (.enter g args) w)
    (hF : ∀ x y W, I32 x → I32 y → Calls Try.prog g #[.int .i32 x, .int .i32 y] W fun e w' => e = .returned (.int .i32 (F x y)) ∧ w' = W)
    (hd : w.cell? ⟨bd, 0, none⟩ = some (.func (.func g) #[] #[])) (ha : Blk w ba #[.int .i32 (a 0), .int .i32 (a 1), .int .i32 (a 2), .int .i32 (a 3)] 24) (hb : Blk w bb #[.int .i32 (b 0), .int .i32 (b 1), .int .i32 (b 2), .int .i32 (b 3)] 24) (Ia : ∀ i, I32 (a i)) (Ib : ∀ i, I32 (b i)) :
    Calls Try.prog 12 #[.int .i64 i, .pointer (some ⟨bd, 0, none⟩), .pointer (some ⟨ba, 0, none⟩), .pointer (some ⟨bb, 0, none⟩)] w fun e w' => e = .returned (.int .i32 (F (a i) (b i))) ∧ Ext w w' := by
  have ca := ha.vec i hi
  have cb := hb.vec i hi
  have hi4 : (i : Int) < 4 := by omega
  have HF := hide hF
  have HI := hide (And.intro (Ia i) (Ib i))
  clear hF Ia Ib ha hb
  go_enter Try.func12, Try.ntmps12
  go_wp2
  go_quiet (first | (go_at_fn g; refine Calls.quiet_of_same (unhide HF _ _ _ (unhide HI).1 (unhide HI).2)))
  go_wp2
  go_ret
  exact ⟨rfl, (Ext.refl w).drewN _⟩

theorem step_any (a b : Int) (w : World) :
    Calls Try.prog 24 #[.int .i32 a, .int .i32 b] w fun e w' => e = .returned (.int .i32 (if a ≤ b then 65536 else 0)) ∧ w' = w := by
  go_enter Try.func24, Try.ntmps24
  go_wp2
  all_goals go_ret
  all_goals refine ⟨?_, rfl⟩
  all_goals simp
  all_goals omega

/-- What the operation number op of two does with two numbers. -/
def twoI (op : Int) (a b : Int) : Int :=
  if op = 0 then addI a b else if op = 1 then subI a b else if op = 2 then mulI a b else if op = 3 then divI a b else if op = 4 then min a b else if op = 5 then max a b else if op = 6 then modI a b else if a ≤ b then 65536 else 0

theorem twoI_i32 (op : Int) {a b : Int} (ha : I32 a) (hb : I32 b) : I32 (twoI op a b) := by
  unfold twoI
  split; exact addI_i32 _ _
  split; exact subI_i32 _ _
  split; exact mulI_i32 _ _
  split; exact divI_i32 _ _
  split; unfold I32 at *; omega
  split; unfold I32 at *; omega
  split; exact subI_i32 _ _
  unfold I32
  split <;> omega

/-- The number of the function that does the operation number op of two. -/
def twoF (op : Int) : FuncId :=
  if op = 0 then 8 else if op = 1 then 18 else if op = 2 then 19 else if op = 3 then 20 else if op = 4 then 21 else if op = 5 then 22 else if op = 6 then 23 else 24

theorem op_cases {op : Int} (h0 : 0 ≤ op) (h7 : op ≤ 7) : op = 0 ∨ op = 1 ∨ op = 2 ∨ op = 3 ∨ op = 4 ∨ op = 5 ∨ op = 6 ∨ op = 7 := by omega

theorem ofTwo_any (op : Int) (w : World) (h0 : 0 ≤ op) (h7 : op ≤ 7) :
    Calls Try.prog 10 #[.int .i64 op] w fun e w' => e = .returned (.func (.func (twoF op)) #[] #[]) ∧ w' = w := by
  rcases op_cases h0 h7 with rfl | rfl | rfl | rfl | rfl | rfl | rfl | rfl
  all_goals go_enter Try.func10, Try.ntmps10
  all_goals go_wp2
  all_goals go_ret
  all_goals exact ⟨rfl, rfl⟩

theorem ofTwo_bad (op : Int) (w : World) (h : op < 0 ∨ 7 < op) :
    Calls Try.prog 10 #[.int .i64 op] w fun e w' => e = .returned .nilFunc ∧ w' = w := by
  have d0 : (op == 0) = false := by simp; omega
  have d1 : (op == 1) = false := by simp; omega
  have d2 : (op == 2) = false := by simp; omega
  have d3 : (op == 3) = false := by simp; omega
  have d4 : (op == 4) = false := by simp; omega
  have d5 : (op == 5) = false := by simp; omega
  have d6 : (op == 6) = false := by simp; omega
  have d7 : (op == 7) = false := by simp; omega
  go_enter Try.func10, Try.ntmps10
  go_wp2
  go_ret
  exact ⟨rfl, rfl⟩

theorem twoF_enters (op : Int) (h0 : 0 ≤ op) (h7 : op ≤ 7) : ∀ args w, (callFunc (twoF op) args).run Try.prog w = .ok (.enter (twoF op) args) w := by
  rcases op_cases h0 h7 with rfl | rfl | rfl | rfl | rfl | rfl | rfl | rfl
  · exact enters_of Try.func8 (by kernel_rfl) rfl
  · exact enters_of Try.func18 (by kernel_rfl) rfl
  · exact enters_of Try.func19 (by kernel_rfl) rfl
  · exact enters_of Try.func20 (by kernel_rfl) rfl
  · exact enters_of Try.func21 (by kernel_rfl) rfl
  · exact enters_of Try.func22 (by kernel_rfl) rfl
  · exact enters_of Try.func23 (by kernel_rfl) rfl
  · exact enters_of Try.func24 (by kernel_rfl) rfl

theorem twoF_does (op : Int) (h0 : 0 ≤ op) (h7 : op ≤ 7) (x y : Int) (w : World) (hx : I32 x) (hy : I32 y) :
    Calls Try.prog (twoF op) #[.int .i32 x, .int .i32 y] w fun e w' => e = .returned (.int .i32 (twoI op x y)) ∧ w' = w := by
  rcases op_cases h0 h7 with rfl | rfl | rfl | rfl | rfl | rfl | rfl | rfl
  · exact add_any x y w hx hy
  · exact sub_any x y w hx hy
  · exact mul_any x y w hx hy
  · exact div_any x y w hx hy
  · exact min_any x y w
  · exact max_any x y w
  · exact mod_any x y w hx hy
  · exact step_any x y w

end Go.Proofs.Ytljffgmgnnjnaaa
