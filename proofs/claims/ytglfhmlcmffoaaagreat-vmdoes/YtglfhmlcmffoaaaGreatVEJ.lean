/- Several texts in one. -/
import Derived.Test.YtglfhmlcmffoaaaGreatMAJ
import Derived.Test.YtglfhmlcmffoaaaGreatLemJ
import Derived.Laws.EntriesVeiled
/-
  Vectors: the operations of two and of one, by component, and All.
-/
namespace Go.Proofs.YtglfhmlcmffoaaaGreat
open Go.RowKit
set_option linter.unusedVariables false

theorem two1_any (i : Nat) (hi : i < 4) (g : FuncId) (F : Int → Int → Int) (a b : Nat → Int) (bd ba bb : Nat) (w : World)
    (eg : ∀ args w, (callFunc g args).run Tryz.prog w = .ok (.enter g args) w)
    (hF : ∀ x y W, I32 x → I32 y → Calls Tryz.prog g #[.int .i32 x, .int .i32 y] W fun e w' => e = .returned (.int .i32 (F x y)) ∧ w' = W)
    (hd : w.cell? ⟨bd, 0, none⟩ = some (.func (.func g) #[] #[])) (ha : Blk w ba #[.int .i32 (a 0), .int .i32 (a 1), .int .i32 (a 2), .int .i32 (a 3)] 28) (hb : Blk w bb #[.int .i32 (b 0), .int .i32 (b 1), .int .i32 (b 2), .int .i32 (b 3)] 28) (Ia : ∀ i, I32 (a i)) (Ib : ∀ i, I32 (b i)) :
    Calls Tryz.prog 178 #[.int .i64 i, .pointer (some ⟨bd, 0, none⟩), .pointer (some ⟨ba, 0, none⟩), .pointer (some ⟨bb, 0, none⟩)] w fun e w' => e = .returned (.int .i32 (F (a i) (b i))) ∧ Ext w w' := by
  have ca := ha.vec i hi
  have cb := hb.vec i hi
  have hi4 : (i : Int) < 4 := by omega
  have HF := hide hF
  have HI := hide (And.intro (Ia i) (Ib i))
  clear hF Ia Ib ha hb
  go_enter Tryz.func178, Tryz.ntmps178
  go_wp2
  go_quiet (first | (go_at_fn g; refine Calls.quiet_of_same (unhide HF _ _ _ (unhide HI).1 (unhide HI).2)))
  go_wp2
  go_ret
  exact ⟨rfl, (Ext.refl w).drewN _⟩

theorem step_any (a b : Int) (w : World) :
    Calls Tryz.prog 201 #[.int .i32 a, .int .i32 b] w fun e w' => e = .returned (.int .i32 (if a ≤ b then 65536 else 0)) ∧ w' = w := by
  go_enter Tryz.func201, Tryz.ntmps201
  go_wp2
  all_goals go_ret
  all_goals refine ⟨?_, rfl⟩
  all_goals simp
  all_goals omega

/-- What the operation number op of two does with two numbers. -/
def twoI (op : Int) (a b : Int) : Int :=
  if op = 0 then addI a b else if op = 1 then subI a b else if op = 2 then mulI a b else if op = 3 then divI a b else if op = 4 then min a b else if op = 5 then max a b else if op = 6 then modI a b else if a ≤ b then 65536 else 0

theorem twoI_i32 (op : Int) {a b : Int} (ha : I32 a) (hb : I32 b) : I32 (twoI op a b) := by
  unfold twoI
  split; exact addI_i32 _ _
  split; exact subI_i32 _ _
  split; exact mulI_i32 _ _
  split; exact divI_i32 _ _
  split; unfold I32 at *; omega
  split; unfold I32 at *; omega
  split; exact subI_i32 _ _
  unfold I32
  split <;> omega

/-- The number of the function that does the operation number op of two. -/
def twoF (op : Int) : FuncId :=
  if op = 0 then 141 else if op = 1 then 143 else if op = 2 then 142 else if op = 3 then 197 else if op = 4 then 198 else if op = 5 then 199 else if op = 6 then 200 else 201

theorem op_cases {op : Int} (h0 : 0 ≤ op) (h7 : op ≤ 7) : op = 0 ∨ op = 1 ∨ op = 2 ∨ op = 3 ∨ op = 4 ∨ op = 5 ∨ op = 6 ∨ op = 7 := by omega

theorem ofTwo_any (op : Int) (w : World) (h0 : 0 ≤ op) (h7 : op ≤ 7) :
    Calls Tryz.prog 177 #[.int .i64 op] w fun e w' => e = .returned (.func (.func (twoF op)) #[] #[]) ∧ w' = w := by
  rcases op_cases h0 h7 with rfl | rfl | rfl | rfl | rfl | rfl | rfl | rfl
  all_goals go_enter Tryz.func177, Tryz.ntmps177
  all_goals go_wp2
  all_goals go_ret
  all_goals exact ⟨rfl, rfl⟩

theorem ofTwo_bad (op : Int) (w : World) (h : op < 0 ∨ 7 < op) :
    Calls Tryz.prog 177 #[.int .i64 op] w fun e w' => e = .returned .nilFunc ∧ w' = w := by
  have d0 : (op == 0) = false := by simp; omega
  have d1 : (op == 1) = false := by simp; omega
  have d2 : (op == 2) = false := by simp; omega
  have d3 : (op == 3) = false := by simp; omega
  have d4 : (op == 4) = false := by simp; omega
  have d5 : (op == 5) = false := by simp; omega
  have d6 : (op == 6) = false := by simp; omega
  have d7 : (op == 7) = false := by simp; omega
  go_enter Tryz.func177, Tryz.ntmps177
  go_wp2
  go_ret
  exact ⟨rfl, rfl⟩

theorem twoF_enters (op : Int) (h0 : 0 ≤ op) (h7 : op ≤ 7) : ∀ args w, (callFunc (twoF op) args).run Tryz.prog w = .ok (.enter (twoF op) args) w := by
  rcases op_cases h0 h7 with rfl | rfl | rfl | rfl | rfl | rfl | rfl | rfl
  · exact enters_of Tryz.func141 (by kernel_rfl) rfl
  · exact enters_of Tryz.func143 (by kernel_rfl) rfl
  · exact enters_of Tryz.func142 (by kernel_rfl) rfl
  · exact enters_of Tryz.func197 (by kernel_rfl) rfl
  · exact enters_of Tryz.func198 (by kernel_rfl) rfl
  · exact enters_of Tryz.func199 (by kernel_rfl) rfl
  · exact enters_of Tryz.func200 (by kernel_rfl) rfl
  · exact enters_of Tryz.func201 (by kernel_rfl) rfl

theorem twoF_does (op : Int) (h0 : 0 ≤ op) (h7 : op ≤ 7) (x y : Int) (w : World) (hx : I32 x) (hy : I32 y) :
    Calls Tryz.prog (twoF op) #[.int .i32 x, .int .i32 y] w fun e w' => e = .returned (.int .i32 (twoI op x y)) ∧ w' = w := by
  rcases op_cases h0 h7 with rfl | rfl | rfl | rfl | rfl | rfl | rfl | rfl
  · exact add_any x y w hx hy
  · exact sub_any x y w hx hy
  · exact mul_any x y w hx hy
  · exact div_any x y w hx hy
  · exact min_any x y w
  · exact max_any x y w
  · exact mod_any x y w hx hy
  · exact step_any x y w

end Go.Proofs.YtglfhmlcmffoaaaGreat

/-
  Vectors: Two.
-/
namespace Go.Proofs.YtglfhmlcmffoaaaGreat
open Go.RowKit
set_option linter.unusedVariables false

theorem two1_enters : ∀ args w, (callFunc 178 args).run Tryz.prog w = .ok (.enter 178 args) w := enters_of Tryz.func178 (by kernel_rfl) rfl

theorem eql_two (w : World) (g : FuncId) : (binOp .eql 96 (.func (.func g) #[] #[]) .nilFunc).run Tryz.prog w = .ok (.bool false) w := by kernel_rfl
theorem eql_two_nil (w : World) : (binOp .eql 96 .nilFunc .nilFunc).run Tryz.prog w = .ok (.bool true) w := by kernel_rfl

set_option maxHeartbeats 1000000 in
theorem two_any (op n : Int) (a b : Nat → Int) (w : World) (h0 : 0 ≤ op) (h7 : op ≤ 7) (h1 : 1 ≤ n) (h4 : n ≤ 4) (Ia : ∀ i, I32 (a i)) (Ib : ∀ i, I32 (b i)) :
    Calls Tryz.prog 146 #[.int .i64 op, .int .i64 n, .agg #[.int .i32 (a 0), .int .i32 (a 1), .int .i32 (a 2), .int .i32 (a 3)], .agg #[.int .i32 (b 0), .int .i32 (b 1), .int .i32 (b 2), .int .i32 (b 3)]] w fun e w' => e = .returned (.tuple #[.agg #[.int .i32 (cut n (fun i => twoI op (a i) (b i)) 0), .int .i32 (cut n (fun i => twoI op (a i) (b i)) 1), .int .i32 (cut n (fun i => twoI op (a i) (b i)) 2), .int .i32 (cut n (fun i => twoI op (a i) (b i)) 3)], .int .i64 0]) ∧ Ext w w' := by
  have HI := hide (And.intro Ia Ib)
  clear Ia Ib
  have hq := eql_two
  go_enter Tryz.func146, Tryz.ntmps146
  go_wp2_with fail
  refine (ofTwo_any _ _ h0 h7).mono ?_
  rintro e w1 ⟨rfl, rfl⟩
  go_wp2_with fail
  refine (each_any n 178 _ (fun i => twoI op (a i) (b i)) _ h1 h4 two1_enters (by
    intro i W hi _ hx
    exact two1_any i hi (twoF op) (twoI op) a b _ _ _ W (twoF_enters op h0 h7) (fun x y W hx hy => twoF_does op h0 h7 x y W hx hy) (((Blk.at (by simp)).ext hx).cell rfl) ((((Blk.at rfl).alloc _).alloc _).alloc _ |>.ext hx) ((((Blk.at (by simp)).alloc _).alloc _).ext hx) (unhide HI).1 (unhide HI).2)).mono ?_
  rintro e w1 ⟨rfl, hx⟩
  have R := hide (And.intro (((Blk.at (b := w.heap.size + 1 + 1) (by simp)).alloc _).ext hx) ((((((Ext.refl w).alloc _).alloc _).alloc _).alloc _).trans hx))
  clear hx
  obtain ⟨r0, r1, r2, r3⟩ := Blk.vec4 (a := nul) (unhide R).1
  obtain ⟨f0, f1, f2, f3⟩ := (unhide R).1.free4
  go_wp2
  obtain ⟨q0, q1, q2, q3⟩ := lay4 (a := nul) (unhide R).1 (.int .i32 (cut n (fun i => twoI op (a i) (b i)) 0)) (.int .i32 (cut n (fun i => twoI op (a i) (b i)) 1)) (.int .i32 (cut n (fun i => twoI op (a i) (b i)) 2)) (.int .i32 (cut n (fun i => twoI op (a i) (b i)) 3))
  refine bodyPost_ret (v := .tuple #[.agg #[.int .i32 (cut n (fun i => twoI op (a i) (b i)) 0), .int .i32 (cut n (fun i => twoI op (a i) (b i)) 1), .int .i32 (cut n (fun i => twoI op (a i) (b i)) 2), .int .i32 (cut n (fun i => twoI op (a i) (b i)) 3)], .int .i64 0]) (by simp [results, Tryz.results146, go_sem, q0, q1, q2, q3]) rfl ⟨rfl, ?_⟩
  exact ext_set4 (unhide R).2 (by omega)

theorem two_bad (op n : Int) (a b : Nat → Int) (w : World) (h : op < 0 ∨ 7 < op) :
    Calls Tryz.prog 146 #[.int .i64 op, .int .i64 n, .agg #[.int .i32 (a 0), .int .i32 (a 1), .int .i32 (a 2), .int .i32 (a 3)], .agg #[.int .i32 (b 0), .int .i32 (b 1), .int .i32 (b 2), .int .i32 (b 3)]] w fun e w' => e = .returned (.tuple #[.agg #[.int .i32 0, .int .i32 0, .int .i32 0, .int .i32 0], .int .i64 2]) ∧ Ext w w' := by
  have hq := eql_two_nil
  go_enter Tryz.func146, Tryz.ntmps146
  go_wp2_with fail
  refine (ofTwo_bad _ _ h).mono ?_
  rintro e w1 ⟨rfl, rfl⟩
  go_wp2
  refine bodyPost_ret (v := .tuple #[.agg #[.int .i32 0, .int .i32 0, .int .i32 0, .int .i32 0], .int .i64 2]) (by simp [results, Tryz.results146, go_sem]) rfl ⟨rfl, ?_⟩
  exact ((((Ext.refl w).alloc _).alloc _).alloc _).alloc _

theorem two_off (op n : Int) (a b : Nat → Int) (w : World) (h0 : 0 ≤ op) (h7 : op ≤ 7) (h : n < 1 ∨ 4 < n) :
    Calls Tryz.prog 146 #[.int .i64 op, .int .i64 n, .agg #[.int .i32 (a 0), .int .i32 (a 1), .int .i32 (a 2), .int .i32 (a 3)], .agg #[.int .i32 (b 0), .int .i32 (b 1), .int .i32 (b 2), .int .i32 (b 3)]] w fun e w' => e = .returned (.tuple #[.agg #[.int .i32 0, .int .i32 0, .int .i32 0, .int .i32 0], .int .i64 2]) ∧ Ext w w' := by
  have hq := eql_two
  go_enter Tryz.func146, Tryz.ntmps146
  go_wp2_with fail
  refine (ofTwo_any _ _ h0 h7).mono ?_
  rintro e w1 ⟨rfl, rfl⟩
  go_wp2_with fail
  refine (each_bad _ _ _ h).mono ?_
  rintro e w1 ⟨rfl, hx⟩
  have R := hide (And.intro (((Blk.at (b := w.heap.size + 1 + 1) (by simp)).alloc _).ext hx) ((((((Ext.refl w).alloc _).alloc _).alloc _).alloc _).trans hx))
  clear hx
  obtain ⟨r0, r1, r2, r3⟩ := Blk.vec4 (a := nul) (unhide R).1
  obtain ⟨f0, f1, f2, f3⟩ := (unhide R).1.free4
  go_wp2
  obtain ⟨q0, q1, q2, q3⟩ := lay4 (a := nul) (unhide R).1 (.int .i32 0) (.int .i32 0) (.int .i32 0) (.int .i32 0)
  refine bodyPost_ret (v := .tuple #[.agg #[.int .i32 0, .int .i32 0, .int .i32 0, .int .i32 0], .int .i64 2]) (by simp [results, Tryz.results146, go_sem, q0, q1, q2, q3]) rfl ⟨rfl, ?_⟩
  exact ext_set4 (unhide R).2 (by omega)
end Go.Proofs.YtglfhmlcmffoaaaGreat

/-
  Vectors: One, All, Mix, Clamp. What the dump lacks is left out.
-/
namespace Go.Proofs.YtglfhmlcmffoaaaGreat
open Go.RowKit
set_option linter.unusedVariables false

theorem one1_any (i : Nat) (hi : i < 4) (g : FuncId) (F : Int → Int) (a : Nat → Int) (bd ba : Nat) (w : World)
    (eg : ∀ args w, (callFunc g args).run Tryz.prog w = .ok (.enter g args) w)
    (hF : ∀ x W, I32 x → Calls Tryz.prog g #[.int .i32 x] W fun e w' => e = .returned (.int .i32 (F x)) ∧ w' = W)
    (hd : w.cell? ⟨bd, 0, none⟩ = some (.func (.func g) #[] #[])) (ha : Blk w ba #[.int .i32 (a 0), .int .i32 (a 1), .int .i32 (a 2), .int .i32 (a 3)] 28) (Ia : ∀ i, I32 (a i)) :
    Calls Tryz.prog 182 #[.int .i64 i, .pointer (some ⟨bd, 0, none⟩), .pointer (some ⟨ba, 0, none⟩)] w fun e w' => e = .returned (.int .i32 (F (a i))) ∧ Ext w w' := by
  have ca := ha.vec i hi
  have hi4 : (i : Int) < 4 := by omega
  have HF := hide hF
  have HI := hide (Ia i)
  clear hF Ia ha
  go_enter Tryz.func182, Tryz.ntmps182
  go_wp2
  go_quiet (first | (go_at_fn g; refine Calls.quiet_of_same (unhide HF _ _ (unhide HI))))
  go_wp2
  go_ret
  exact ⟨rfl, (Ext.refl w).drewN _⟩

theorem all1_any (i : Nat) (x : Int) (ba : Nat) (w : World) (ha : w.cell? ⟨ba, 0, none⟩ = some (.int .i32 x)) :
    Calls Tryz.prog 180 #[.int .i64 i, .pointer (some ⟨ba, 0, none⟩)] w fun e w' => e = .returned (.int .i32 x) ∧ Ext w w' := by
  go_enter Tryz.func180, Tryz.ntmps180
  go_wp2
  go_ret
  exact ⟨rfl, Ext.refl w⟩

theorem mix1_any (i : Nat) (hi : i < 4) (a b t : Nat → Int) (ba bb bt : Nat) (w : World) (ha : Blk w ba #[.int .i32 (a 0), .int .i32 (a 1), .int .i32 (a 2), .int .i32 (a 3)] 28) (hb : Blk w bb #[.int .i32 (b 0), .int .i32 (b 1), .int .i32 (b 2), .int .i32 (b 3)] 28) (ht : Blk w bt #[.int .i32 (t 0), .int .i32 (t 1), .int .i32 (t 2), .int .i32 (t 3)] 28) (Ia : ∀ i, I32 (a i)) (Ib : ∀ i, I32 (b i)) (It : ∀ i, I32 (t i)) :
    Calls Tryz.prog 140 #[.int .i64 i, .pointer (some ⟨ba, 0, none⟩), .pointer (some ⟨bb, 0, none⟩), .pointer (some ⟨bt, 0, none⟩)] w fun e w' => e = .returned (.int .i32 (addI (a i) (mulI (subI (b i) (a i)) (t i)))) ∧ Ext w w' := by
  have ca := ha.vec i hi
  have cb := hb.vec i hi
  have ct := ht.vec i hi
  have hi4 : (i : Int) < 4 := by omega
  have HI := hide (And.intro (Ia i) (And.intro (Ib i) (It i)))
  clear Ia Ib It ha hb ht
  go_enter Tryz.func140, Tryz.ntmps140
  go_wp2
  go_quiet (first | (go_at_call 143; refine Calls.quiet_of_same (sub_any _ _ _ (unhide HI).2.1 (unhide HI).1)) | (go_at_call 142; refine Calls.quiet_of_same (mul_any _ _ _ (subI_i32 _ _) (unhide HI).2.2)) | (go_at_call 141; refine Calls.quiet_of_same (add_any _ _ _ (unhide HI).1 (mulI_i32 _ _))))
  go_wp2
  go_ret
  exact ⟨rfl, (Ext.refl w).drewN _⟩

theorem clamp1_any (i : Nat) (hi : i < 4) (a b t : Nat → Int) (ba bb bt : Nat) (w : World) (ha : Blk w ba #[.int .i32 (a 0), .int .i32 (a 1), .int .i32 (a 2), .int .i32 (a 3)] 28) (hb : Blk w bb #[.int .i32 (b 0), .int .i32 (b 1), .int .i32 (b 2), .int .i32 (b 3)] 28) (ht : Blk w bt #[.int .i32 (t 0), .int .i32 (t 1), .int .i32 (t 2), .int .i32 (t 3)] 28) :
    Calls Tryz.prog 144 #[.int .i64 i, .pointer (some ⟨ba, 0, none⟩), .pointer (some ⟨bb, 0, none⟩), .pointer (some ⟨bt, 0, none⟩)] w fun e w' => e = .returned (.int .i32 (clampI (a i) (b i) (t i))) ∧ Ext w w' := by
  have ca := ha.vec i hi
  have cb := hb.vec i hi
  have ct := ht.vec i hi
  have hi4 : (i : Int) < 4 := by omega
  clear ha hb ht
  go_enter Tryz.func144, Tryz.ntmps144
  go_wp2
  go_quiet (first | (go_at_call 145; refine Calls.quiet_of_same (clamp_any _ _ _ _)))
  go_wp2
  go_ret
  exact ⟨rfl, (Ext.refl w).drewN _⟩

/-- What the operation number op of one does with a number. -/
def oneI (op : Int) (a : Int) : Int :=
  if op = 0 then negI a else if op = 1 then absI a else if op = 2 then signI a else if op = 3 then floorI a else fractI a

-- for 154
def oneF (op : Int) : FuncId :=
  if op = 0 then 202 else if op = 1 then 203 else if op = 2 then 204 else if op = 3 then 205 else 206

theorem op1_cases {op : Int} (h0 : 0 ≤ op) (h4 : op ≤ 4) : op = 0 ∨ op = 1 ∨ op = 2 ∨ op = 3 ∨ op = 4 := by omega

theorem ofOne_any (op : Int) (w : World) (h0 : 0 ≤ op) (h4 : op ≤ 4) :
    Calls Tryz.prog 181 #[.int .i64 op] w fun e w' => e = .returned (.func (.func (oneF op)) #[] #[]) ∧ w' = w := by
  rcases op1_cases h0 h4 with rfl | rfl | rfl | rfl | rfl
  all_goals go_enter Tryz.func181, Tryz.ntmps181
  all_goals go_wp2
  all_goals go_ret
  all_goals exact ⟨rfl, rfl⟩

theorem ofOne_bad (op : Int) (w : World) (h : op < 0 ∨ 4 < op) :
    Calls Tryz.prog 181 #[.int .i64 op] w fun e w' => e = .returned .nilFunc ∧ w' = w := by
  have d0 : (op == 0) = false := by simp; omega
  have d1 : (op == 1) = false := by simp; omega
  have d2 : (op == 2) = false := by simp; omega
  have d3 : (op == 3) = false := by simp; omega
  have d4 : (op == 4) = false := by simp; omega
  go_enter Tryz.func181, Tryz.ntmps181
  go_wp2
  go_ret
  exact ⟨rfl, rfl⟩

-- for 154
theorem oneF_enters (op : Int) (h0 : 0 ≤ op) (h4 : op ≤ 4) : ∀ args w, (callFunc (oneF op) args).run Tryz.prog w = .ok (.enter (oneF op) args) w := by
  rcases op1_cases h0 h4 with rfl | rfl | rfl | rfl | rfl
  · exact enters_of Tryz.func202 (by kernel_rfl) rfl
  · exact enters_of Tryz.func203 (by kernel_rfl) rfl
  · exact enters_of Tryz.func204 (by kernel_rfl) rfl
  · exact enters_of Tryz.func205 (by kernel_rfl) rfl
  · exact enters_of Tryz.func206 (by kernel_rfl) rfl

-- for 154
theorem oneF_does (op : Int) (h0 : 0 ≤ op) (h4 : op ≤ 4) (x : Int) (w : World) (hx : I32 x) :
    Calls Tryz.prog (oneF op) #[.int .i32 x] w fun e w' => e = .returned (.int .i32 (oneI op x)) ∧ w' = w := by
  rcases op1_cases h0 h4 with rfl | rfl | rfl | rfl | rfl
  · exact neg_any x w hx
  · exact abs_any x w hx
  · exact sign_any x w
  · exact floor_any x w hx
  · exact fract_any x w hx

theorem eql_one (w : World) (g : FuncId) : (binOp .eql 95 (.func (.func g) #[] #[]) .nilFunc).run Tryz.prog w = .ok (.bool false) w := by kernel_rfl

theorem eql_one_nil (w : World) : (binOp .eql 95 .nilFunc .nilFunc).run Tryz.prog w = .ok (.bool true) w := by kernel_rfl

theorem one1_enters : ∀ args w, (callFunc 182 args).run Tryz.prog w = .ok (.enter 182 args) w := enters_of Tryz.func182 (by kernel_rfl) rfl

theorem all1_enters : ∀ args w, (callFunc 180 args).run Tryz.prog w = .ok (.enter 180 args) w := enters_of Tryz.func180 (by kernel_rfl) rfl

theorem mix1_enters : ∀ args w, (callFunc 140 args).run Tryz.prog w = .ok (.enter 140 args) w := enters_of Tryz.func140 (by kernel_rfl) rfl

theorem clamp1_enters : ∀ args w, (callFunc 144 args).run Tryz.prog w = .ok (.enter 144 args) w := enters_of Tryz.func144 (by kernel_rfl) rfl

set_option maxHeartbeats 1000000 in
theorem one_any (op n : Int) (a : Nat → Int) (w : World) (h0 : 0 ≤ op) (h5 : op ≤ 4) (h1 : 1 ≤ n) (h4 : n ≤ 4) (Ia : ∀ i, I32 (a i)) :
    Calls Tryz.prog 154 #[.int .i64 op, .int .i64 n, .agg #[.int .i32 (a 0), .int .i32 (a 1), .int .i32 (a 2), .int .i32 (a 3)]] w fun e w' => e = .returned (.tuple #[.agg #[.int .i32 (cut n (fun i => oneI op (a i)) 0), .int .i32 (cut n (fun i => oneI op (a i)) 1), .int .i32 (cut n (fun i => oneI op (a i)) 2), .int .i32 (cut n (fun i => oneI op (a i)) 3)], .int .i64 0]) ∧ Ext w w' := by
  have HI := hide Ia
  clear Ia
  have hq := eql_one
  go_enter Tryz.func154, Tryz.ntmps154
  go_wp2_with fail
  refine (ofOne_any _ _ h0 h5).mono ?_
  rintro e w1 ⟨rfl, rfl⟩
  go_wp2_with fail
  refine (each_any n 182 _ (fun i => oneI op (a i)) _ h1 h4 one1_enters (by
    intro i W hi _ hx
    exact one1_any i hi (oneF op) (oneI op) a _ _ W (oneF_enters op h0 h5) (fun x W hx => oneF_does op h0 h5 x W hx) (((Blk.at (by simp)).ext hx).cell rfl) ((((Blk.at rfl).alloc _).alloc _).ext hx) (unhide HI))).mono ?_
  rintro e w1 ⟨rfl, hx⟩
  have R := hide (And.intro (((Blk.at (b := w.heap.size + 1) (by simp)).alloc _).ext hx) ((((((Ext.refl w).alloc _).alloc _).alloc _)).trans hx))
  clear hx
  obtain ⟨r0, r1, r2, r3⟩ := Blk.vec4 (a := nul) (unhide R).1
  obtain ⟨f0, f1, f2, f3⟩ := (unhide R).1.free4
  go_wp2
  obtain ⟨q0, q1, q2, q3⟩ := lay4 (a := nul) (unhide R).1 (.int .i32 (cut n (fun i => oneI op (a i)) 0)) (.int .i32 (cut n (fun i => oneI op (a i)) 1)) (.int .i32 (cut n (fun i => oneI op (a i)) 2)) (.int .i32 (cut n (fun i => oneI op (a i)) 3))
  refine bodyPost_ret (v := .tuple #[.agg #[.int .i32 (cut n (fun i => oneI op (a i)) 0), .int .i32 (cut n (fun i => oneI op (a i)) 1), .int .i32 (cut n (fun i => oneI op (a i)) 2), .int .i32 (cut n (fun i => oneI op (a i)) 3)], .int .i64 0]) (by simp [results, Tryz.results154, go_sem, q0, q1, q2, q3]) rfl ⟨rfl, ?_⟩
  exact ext_set4 (unhide R).2 (by omega)

theorem one_bad (op n : Int) (a : Nat → Int) (w : World) (h : op < 0 ∨ 4 < op) :
    Calls Tryz.prog 154 #[.int .i64 op, .int .i64 n, .agg #[.int .i32 (a 0), .int .i32 (a 1), .int .i32 (a 2), .int .i32 (a 3)]] w fun e w' => e = .returned (.tuple #[.agg #[.int .i32 0, .int .i32 0, .int .i32 0, .int .i32 0], .int .i64 2]) ∧ Ext w w' := by
  have hq := eql_one_nil
  go_enter Tryz.func154, Tryz.ntmps154
  go_wp2_with fail
  refine (ofOne_bad _ _ h).mono ?_
  rintro e w1 ⟨rfl, rfl⟩
  go_wp2
  refine bodyPost_ret (v := .tuple #[.agg #[.int .i32 0, .int .i32 0, .int .i32 0, .int .i32 0], .int .i64 2]) (by simp [results, Tryz.results154, go_sem]) rfl ⟨rfl, ?_⟩
  exact (((((Ext.refl w).alloc _).alloc _).alloc _))

theorem one_off (op n : Int) (a : Nat → Int) (w : World) (h0 : 0 ≤ op) (h5 : op ≤ 4) (h : n < 1 ∨ 4 < n) :
    Calls Tryz.prog 154 #[.int .i64 op, .int .i64 n, .agg #[.int .i32 (a 0), .int .i32 (a 1), .int .i32 (a 2), .int .i32 (a 3)]] w fun e w' => e = .returned (.tuple #[.agg #[.int .i32 0, .int .i32 0, .int .i32 0, .int .i32 0], .int .i64 2]) ∧ Ext w w' := by
  have hq := eql_one
  go_enter Tryz.func154, Tryz.ntmps154
  go_wp2_with fail
  refine (ofOne_any _ _ h0 h5).mono ?_
  rintro e w1 ⟨rfl, rfl⟩
  go_wp2_with fail
  refine (each_bad _ _ _ h).mono ?_
  rintro e w1 ⟨rfl, hx⟩
  have R := hide (And.intro (((Blk.at (b := w.heap.size + 1) (by simp)).alloc _).ext hx) ((((((Ext.refl w).alloc _).alloc _).alloc _)).trans hx))
  clear hx
  obtain ⟨r0, r1, r2, r3⟩ := Blk.vec4 (a := nul) (unhide R).1
  obtain ⟨f0, f1, f2, f3⟩ := (unhide R).1.free4
  go_wp2
  obtain ⟨q0, q1, q2, q3⟩ := lay4 (a := nul) (unhide R).1 (.int .i32 0) (.int .i32 0) (.int .i32 0) (.int .i32 0)
  refine bodyPost_ret (v := .tuple #[.agg #[.int .i32 0, .int .i32 0, .int .i32 0, .int .i32 0], .int .i64 2]) (by simp [results, Tryz.results154, go_sem, q0, q1, q2, q3]) rfl ⟨rfl, ?_⟩
  exact ext_set4 (unhide R).2 (by omega)

set_option maxHeartbeats 1000000 in
theorem all_any (n x : Int) (w : World) (h1 : 1 ≤ n) (h4 : n ≤ 4) :
    Calls Tryz.prog 151 #[.int .i64 n, .int .i32 x] w fun e w' => e = .returned (.tuple #[.agg #[.int .i32 (cut n (fun _ => x) 0), .int .i32 (cut n (fun _ => x) 1), .int .i32 (cut n (fun _ => x) 2), .int .i32 (cut n (fun _ => x) 3)], .int .i64 0]) ∧ Ext w w' := by
  go_enter Tryz.func151, Tryz.ntmps151
  go_wp2_with fail
  refine (each_any n 180 _ (fun _ => x) _ h1 h4 all1_enters (by
    intro i W hi _ hx
    exact all1_any i x _ W ((((Blk.at rfl).alloc _).ext hx).cell rfl))).mono ?_
  rintro e w1 ⟨rfl, hx⟩
  have R := hide (And.intro ((Blk.at (b := w.heap.size + 1) (by simp)).ext hx) (((((Ext.refl w).alloc _).alloc _)).trans hx))
  clear hx
  obtain ⟨r0, r1, r2, r3⟩ := Blk.vec4 (a := nul) (unhide R).1
  obtain ⟨f0, f1, f2, f3⟩ := (unhide R).1.free4
  go_wp2
  obtain ⟨q0, q1, q2, q3⟩ := lay4 (a := nul) (unhide R).1 (.int .i32 (cut n (fun _ => x) 0)) (.int .i32 (cut n (fun _ => x) 1)) (.int .i32 (cut n (fun _ => x) 2)) (.int .i32 (cut n (fun _ => x) 3))
  refine bodyPost_ret (v := .tuple #[.agg #[.int .i32 (cut n (fun _ => x) 0), .int .i32 (cut n (fun _ => x) 1), .int .i32 (cut n (fun _ => x) 2), .int .i32 (cut n (fun _ => x) 3)], .int .i64 0]) (by simp [results, Tryz.results151, go_sem, q0, q1, q2, q3]) rfl ⟨rfl, ?_⟩
  exact ext_set4 (unhide R).2 (by omega)

theorem all_off (n x : Int) (w : World) (h : n < 1 ∨ 4 < n) :
    Calls Tryz.prog 151 #[.int .i64 n, .int .i32 x] w fun e w' => e = .returned (.tuple #[.agg #[.int .i32 0, .int .i32 0, .int .i32 0, .int .i32 0], .int .i64 2]) ∧ Ext w w' := by
  go_enter Tryz.func151, Tryz.ntmps151
  go_wp2_with fail
  refine (each_bad _ _ _ h).mono ?_
  rintro e w1 ⟨rfl, hx⟩
  have R := hide (And.intro ((Blk.at (b := w.heap.size + 1) (by simp)).ext hx) (((((Ext.refl w).alloc _).alloc _)).trans hx))
  clear hx
  obtain ⟨r0, r1, r2, r3⟩ := Blk.vec4 (a := nul) (unhide R).1
  obtain ⟨f0, f1, f2, f3⟩ := (unhide R).1.free4
  go_wp2
  obtain ⟨q0, q1, q2, q3⟩ := lay4 (a := nul) (unhide R).1 (.int .i32 0) (.int .i32 0) (.int .i32 0) (.int .i32 0)
  refine bodyPost_ret (v := .tuple #[.agg #[.int .i32 0, .int .i32 0, .int .i32 0, .int .i32 0], .int .i64 2]) (by simp [results, Tryz.results151, go_sem, q0, q1, q2, q3]) rfl ⟨rfl, ?_⟩
  exact ext_set4 (unhide R).2 (by omega)

set_option maxHeartbeats 1000000 in
theorem mixV_any (n : Int) (a b t : Nat → Int) (w : World) (h1 : 1 ≤ n) (h4 : n ≤ 4) (Ia : ∀ i, I32 (a i)) (Ib : ∀ i, I32 (b i)) (It : ∀ i, I32 (t i)) :
    Calls Tryz.prog 106 #[.int .i64 n, .agg #[.int .i32 (a 0), .int .i32 (a 1), .int .i32 (a 2), .int .i32 (a 3)], .agg #[.int .i32 (b 0), .int .i32 (b 1), .int .i32 (b 2), .int .i32 (b 3)], .agg #[.int .i32 (t 0), .int .i32 (t 1), .int .i32 (t 2), .int .i32 (t 3)]] w fun e w' => e = .returned (.tuple #[.agg #[.int .i32 (cut n (fun i => addI (a i) (mulI (subI (b i) (a i)) (t i))) 0), .int .i32 (cut n (fun i => addI (a i) (mulI (subI (b i) (a i)) (t i))) 1), .int .i32 (cut n (fun i => addI (a i) (mulI (subI (b i) (a i)) (t i))) 2), .int .i32 (cut n (fun i => addI (a i) (mulI (subI (b i) (a i)) (t i))) 3)], .int .i64 0]) ∧ Ext w w' := by
  have HI := hide (And.intro Ia (And.intro Ib It))
  clear Ia Ib It
  go_enter Tryz.func106, Tryz.ntmps106
  go_wp2_with fail
  refine (each_any n 140 _ (fun i => addI (a i) (mulI (subI (b i) (a i)) (t i))) _ h1 h4 mix1_enters (by
    intro i W hi _ hx
    exact mix1_any i hi a b t _ _ _ W (((((Blk.at rfl).alloc _).alloc _).alloc _).ext hx) ((((Blk.at (by simp)).alloc _).alloc _).ext hx) (((Blk.at (by simp)).alloc _).ext hx) (unhide HI).1 (unhide HI).2.1 (unhide HI).2.2)).mono ?_
  rintro e w1 ⟨rfl, hx⟩
  have R := hide (And.intro ((Blk.at (b := w.heap.size + 1 + 1 + 1) (by simp)).ext hx) (((((((Ext.refl w).alloc _).alloc _).alloc _).alloc _)).trans hx))
  clear hx
  obtain ⟨r0, r1, r2, r3⟩ := Blk.vec4 (a := nul) (unhide R).1
  obtain ⟨f0, f1, f2, f3⟩ := (unhide R).1.free4
  go_wp2
  obtain ⟨q0, q1, q2, q3⟩ := lay4 (a := nul) (unhide R).1 (.int .i32 (cut n (fun i => addI (a i) (mulI (subI (b i) (a i)) (t i))) 0)) (.int .i32 (cut n (fun i => addI (a i) (mulI (subI (b i) (a i)) (t i))) 1)) (.int .i32 (cut n (fun i => addI (a i) (mulI (subI (b i) (a i)) (t i))) 2)) (.int .i32 (cut n (fun i => addI (a i) (mulI (subI (b i) (a i)) (t i))) 3))
  refine bodyPost_ret (v := .tuple #[.agg #[.int .i32 (cut n (fun i => addI (a i) (mulI (subI (b i) (a i)) (t i))) 0), .int .i32 (cut n (fun i => addI (a i) (mulI (subI (b i) (a i)) (t i))) 1), .int .i32 (cut n (fun i => addI (a i) (mulI (subI (b i) (a i)) (t i))) 2), .int .i32 (cut n (fun i => addI (a i) (mulI (subI (b i) (a i)) (t i))) 3)], .int .i64 0]) (by simp [results, Tryz.results106, go_sem, q0, q1, q2, q3]) rfl ⟨rfl, ?_⟩
  exact ext_set4 (unhide R).2 (by omega)

theorem mixV_off (n : Int) (a b t : Nat → Int) (w : World) (h : n < 1 ∨ 4 < n) :
    Calls Tryz.prog 106 #[.int .i64 n, .agg #[.int .i32 (a 0), .int .i32 (a 1), .int .i32 (a 2), .int .i32 (a 3)], .agg #[.int .i32 (b 0), .int .i32 (b 1), .int .i32 (b 2), .int .i32 (b 3)], .agg #[.int .i32 (t 0), .int .i32 (t 1), .int .i32 (t 2), .int .i32 (t 3)]] w fun e w' => e = .returned (.tuple #[.agg #[.int .i32 0, .int .i32 0, .int .i32 0, .int .i32 0], .int .i64 2]) ∧ Ext w w' := by
  go_enter Tryz.func106, Tryz.ntmps106
  go_wp2_with fail
  refine (each_bad _ _ _ h).mono ?_
  rintro e w1 ⟨rfl, hx⟩
  have R := hide (And.intro ((Blk.at (b := w.heap.size + 1 + 1 + 1) (by simp)).ext hx) (((((((Ext.refl w).alloc _).alloc _).alloc _).alloc _)).trans hx))
  clear hx
  obtain ⟨r0, r1, r2, r3⟩ := Blk.vec4 (a := nul) (unhide R).1
  obtain ⟨f0, f1, f2, f3⟩ := (unhide R).1.free4
  go_wp2
  obtain ⟨q0, q1, q2, q3⟩ := lay4 (a := nul) (unhide R).1 (.int .i32 0) (.int .i32 0) (.int .i32 0) (.int .i32 0)
  refine bodyPost_ret (v := .tuple #[.agg #[.int .i32 0, .int .i32 0, .int .i32 0, .int .i32 0], .int .i64 2]) (by simp [results, Tryz.results106, go_sem, q0, q1, q2, q3]) rfl ⟨rfl, ?_⟩
  exact ext_set4 (unhide R).2 (by omega)

set_option maxHeartbeats 1000000 in
theorem clampV_any (n : Int) (a b t : Nat → Int) (w : World) (h1 : 1 ≤ n) (h4 : n ≤ 4) :
    Calls Tryz.prog 107 #[.int .i64 n, .agg #[.int .i32 (a 0), .int .i32 (a 1), .int .i32 (a 2), .int .i32 (a 3)], .agg #[.int .i32 (b 0), .int .i32 (b 1), .int .i32 (b 2), .int .i32 (b 3)], .agg #[.int .i32 (t 0), .int .i32 (t 1), .int .i32 (t 2), .int .i32 (t 3)]] w fun e w' => e = .returned (.tuple #[.agg #[.int .i32 (cut n (fun i => clampI (a i) (b i) (t i)) 0), .int .i32 (cut n (fun i => clampI (a i) (b i) (t i)) 1), .int .i32 (cut n (fun i => clampI (a i) (b i) (t i)) 2), .int .i32 (cut n (fun i => clampI (a i) (b i) (t i)) 3)], .int .i64 0]) ∧ Ext w w' := by
  go_enter Tryz.func107, Tryz.ntmps107
  go_wp2_with fail
  refine (each_any n 144 _ (fun i => clampI (a i) (b i) (t i)) _ h1 h4 clamp1_enters (by
    intro i W hi _ hx
    exact clamp1_any i hi a b t _ _ _ W (((((Blk.at rfl).alloc _).alloc _).alloc _).ext hx) ((((Blk.at (by simp)).alloc _).alloc _).ext hx) (((Blk.at (by simp)).alloc _).ext hx))).mono ?_
  rintro e w1 ⟨rfl, hx⟩
  have R := hide (And.intro ((Blk.at (b := w.heap.size + 1 + 1 + 1) (by simp)).ext hx) (((((((Ext.refl w).alloc _).alloc _).alloc _).alloc _)).trans hx))
  clear hx
  obtain ⟨r0, r1, r2, r3⟩ := Blk.vec4 (a := nul) (unhide R).1
  obtain ⟨f0, f1, f2, f3⟩ := (unhide R).1.free4
  go_wp2
  obtain ⟨q0, q1, q2, q3⟩ := lay4 (a := nul) (unhide R).1 (.int .i32 (cut n (fun i => clampI (a i) (b i) (t i)) 0)) (.int .i32 (cut n (fun i => clampI (a i) (b i) (t i)) 1)) (.int .i32 (cut n (fun i => clampI (a i) (b i) (t i)) 2)) (.int .i32 (cut n (fun i => clampI (a i) (b i) (t i)) 3))
  refine bodyPost_ret (v := .tuple #[.agg #[.int .i32 (cut n (fun i => clampI (a i) (b i) (t i)) 0), .int .i32 (cut n (fun i => clampI (a i) (b i) (t i)) 1), .int .i32 (cut n (fun i => clampI (a i) (b i) (t i)) 2), .int .i32 (cut n (fun i => clampI (a i) (b i) (t i)) 3)], .int .i64 0]) (by simp [results, Tryz.results107, go_sem, q0, q1, q2, q3]) rfl ⟨rfl, ?_⟩
  exact ext_set4 (unhide R).2 (by omega)

theorem clampV_off (n : Int) (a b t : Nat → Int) (w : World) (h : n < 1 ∨ 4 < n) :
    Calls Tryz.prog 107 #[.int .i64 n, .agg #[.int .i32 (a 0), .int .i32 (a 1), .int .i32 (a 2), .int .i32 (a 3)], .agg #[.int .i32 (b 0), .int .i32 (b 1), .int .i32 (b 2), .int .i32 (b 3)], .agg #[.int .i32 (t 0), .int .i32 (t 1), .int .i32 (t 2), .int .i32 (t 3)]] w fun e w' => e = .returned (.tuple #[.agg #[.int .i32 0, .int .i32 0, .int .i32 0, .int .i32 0], .int .i64 2]) ∧ Ext w w' := by
  go_enter Tryz.func107, Tryz.ntmps107
  go_wp2_with fail
  refine (each_bad _ _ _ h).mono ?_
  rintro e w1 ⟨rfl, hx⟩
  have R := hide (And.intro ((Blk.at (b := w.heap.size + 1 + 1 + 1) (by simp)).ext hx) (((((((Ext.refl w).alloc _).alloc _).alloc _).alloc _)).trans hx))
  clear hx
  obtain ⟨r0, r1, r2, r3⟩ := Blk.vec4 (a := nul) (unhide R).1
  obtain ⟨f0, f1, f2, f3⟩ := (unhide R).1.free4
  go_wp2
  obtain ⟨q0, q1, q2, q3⟩ := lay4 (a := nul) (unhide R).1 (.int .i32 0) (.int .i32 0) (.int .i32 0) (.int .i32 0)
  refine bodyPost_ret (v := .tuple #[.agg #[.int .i32 0, .int .i32 0, .int .i32 0, .int .i32 0], .int .i64 2]) (by simp [results, Tryz.results107, go_sem, q0, q1, q2, q3]) rfl ⟨rfl, ?_⟩
  exact ext_set4 (unhide R).2 (by omega)

end Go.Proofs.YtglfhmlcmffoaaaGreat
/-
  Vectors: Cross, Dot. What the dump lacks is left out.
-/
namespace Go.Proofs.YtglfhmlcmffoaaaGreat
open Go.RowKit
set_option linter.unusedVariables false

/-- A product less another one. -/
def crossI (a b : Nat → Int) (i j : Nat) : Int := subI (mulI (a i) (b j)) (mulI (a j) (b i))

theorem cross1_any (i j : Nat) (hi : i < 4) (hj : j < 4) (a b : Nat → Int) (ba bb : Nat) (w : World) (ha : Blk w ba #[.int .i32 (a 0), .int .i32 (a 1), .int .i32 (a 2), .int .i32 (a 3)] 28) (hb : Blk w bb #[.int .i32 (b 0), .int .i32 (b 1), .int .i32 (b 2), .int .i32 (b 3)] 28) (Ia : ∀ i, I32 (a i)) (Ib : ∀ i, I32 (b i)) :
    Calls Tryz.prog 150 #[.int .i64 i, .int .i64 j, .pointer (some ⟨ba, 0, none⟩), .pointer (some ⟨bb, 0, none⟩)] w fun e w' => e = .returned (.int .i32 (crossI a b i j)) ∧ Ext w w' := by
  have ca := ha.vec i hi
  have cb := hb.vec i hi
  have da := ha.vec j hj
  have db := hb.vec j hj
  have hi4 : (i : Int) < 4 := by omega
  have hj4 : (j : Int) < 4 := by omega
  have HI := hide (And.intro Ia Ib)
  clear Ia Ib ha hb
  go_enter Tryz.func150, Tryz.ntmps150
  go_wp2
  go_quiet (first | (go_at_call 142; refine Calls.quiet_of_same (mul_any _ _ _ ((unhide HI).1 _) ((unhide HI).2 _))) | (go_at_call 143; refine Calls.quiet_of_same (sub_any _ _ _ (mulI_i32 _ _) (mulI_i32 _ _))))
  go_wp2
  go_ret
  exact ⟨rfl, (Ext.refl w).drewN _⟩

set_option maxHeartbeats 1000000 in
theorem crossV_any (a b : Nat → Int) (w : World) (Ia : ∀ i, I32 (a i)) (Ib : ∀ i, I32 (b i)) :
    Calls Tryz.prog 110 #[.agg #[.int .i32 (a 0), .int .i32 (a 1), .int .i32 (a 2), .int .i32 (a 3)], .agg #[.int .i32 (b 0), .int .i32 (b 1), .int .i32 (b 2), .int .i32 (b 3)]] w fun e w' => e = .returned (.agg #[.int .i32 (crossI a b 1 2), .int .i32 (crossI a b 2 0), .int .i32 (crossI a b 0 1), .int .i32 0]) ∧ Ext w w' := by
  have B0 : Hid (Blk (((w.alloc (.cells #[.int .i32 (a 0), .int .i32 (a 1), .int .i32 (a 2), .int .i32 (a 3)] 28)).alloc (.cells #[.int .i32 (b 0), .int .i32 (b 1), .int .i32 (b 2), .int .i32 (b 3)] 28)).alloc (.cells #[.int .i32 0, .int .i32 0, .int .i32 0, .int .i32 0] 28)) w.heap.size #[.int .i32 (a 0), .int .i32 (a 1), .int .i32 (a 2), .int .i32 (a 3)] 28) := ((Blk.at rfl).alloc _).alloc _
  have B1 : Hid (Blk (((w.alloc (.cells #[.int .i32 (a 0), .int .i32 (a 1), .int .i32 (a 2), .int .i32 (a 3)] 28)).alloc (.cells #[.int .i32 (b 0), .int .i32 (b 1), .int .i32 (b 2), .int .i32 (b 3)] 28)).alloc (.cells #[.int .i32 0, .int .i32 0, .int .i32 0, .int .i32 0] 28)) (w.heap.size + 1) #[.int .i32 (b 0), .int .i32 (b 1), .int .i32 (b 2), .int .i32 (b 3)] 28) := (Blk.at (by simp)).alloc _
  have B2 : Hid (Blk (((w.alloc (.cells #[.int .i32 (a 0), .int .i32 (a 1), .int .i32 (a 2), .int .i32 (a 3)] 28)).alloc (.cells #[.int .i32 (b 0), .int .i32 (b 1), .int .i32 (b 2), .int .i32 (b 3)] 28)).alloc (.cells #[.int .i32 0, .int .i32 0, .int .i32 0, .int .i32 0] 28)) (w.heap.size + 1 + 1) #[.int .i32 (nul 0), .int .i32 (nul 1), .int .i32 (nul 2), .int .i32 (nul 3)] 28) := Blk.at (by simp)
  have X : Hid (Ext w (((w.alloc (.cells #[.int .i32 (a 0), .int .i32 (a 1), .int .i32 (a 2), .int .i32 (a 3)] 28)).alloc (.cells #[.int .i32 (b 0), .int .i32 (b 1), .int .i32 (b 2), .int .i32 (b 3)] 28)).alloc (.cells #[.int .i32 0, .int .i32 0, .int .i32 0, .int .i32 0] 28))) := (((Ext.refl w).alloc _).alloc _).alloc _
  go_enter Tryz.func110, Tryz.ntmps110
  go_wp2_with fail
  refine (cross1_any 1 2 (by omega) (by omega) a b _ _ _ (unhide B0) (unhide B1) Ia Ib).mono ?_
  rintro e w1 ⟨rfl, hx1⟩
  have C0 := hide ((unhide B0).ext hx1)
  have C1 := hide ((unhide B1).ext hx1)
  have C2 := hide ((unhide B2).ext hx1)
  have Y := hide ((unhide X).trans hx1)
  clear B0 B1 B2 X hx1
  go_wp2_with fail
  refine (cross1_any 2 0 (by omega) (by omega) a b _ _ _ (unhide C0) (unhide C1) Ia Ib).mono ?_
  rintro e w2 ⟨rfl, hx1⟩
  have D0 := hide ((unhide C0).ext hx1)
  have D1 := hide ((unhide C1).ext hx1)
  have D2 := hide ((unhide C2).ext hx1)
  have Z := hide ((unhide Y).trans hx1)
  clear C0 C1 C2 Y hx1
  go_wp2_with fail
  refine (cross1_any 0 1 (by omega) (by omega) a b _ _ _ (unhide D0) (unhide D1) Ia Ib).mono ?_
  rintro e w3 ⟨rfl, hx1⟩
  have R := hide (And.intro ((unhide D2).ext hx1) ((unhide Z).trans hx1))
  clear D0 D1 D2 Z hx1
  obtain ⟨r0, r1, r2, r3⟩ := Blk.vec4 (a := nul) (unhide R).1
  obtain ⟨f0, f1, f2, f3⟩ := (unhide R).1.free4
  go_wp2
  obtain ⟨q0, q1, q2, q3⟩ := lay4 (a := nul) (unhide R).1 (.int .i32 (crossI a b 1 2)) (.int .i32 (crossI a b 2 0)) (.int .i32 (crossI a b 0 1)) (.int .i32 0)
  refine bodyPost_ret (v := .agg #[.int .i32 (crossI a b 1 2), .int .i32 (crossI a b 2 0), .int .i32 (crossI a b 0 1), .int .i32 0]) (by simp [results, Tryz.results110, go_sem, q0, q1, q2, q3]) rfl ⟨rfl, ?_⟩
  exact ext_set4 (unhide R).2 (by omega)

/-- The sum of the first k numbers of p, from the first one on. -/
def sumI (p : Nat → Int) : Nat → Int
  | 0 => 0
  | k + 1 => addI (sumI p k) (p k)

theorem sumI_i32 (p : Nat → Int) : ∀ k, I32 (sumI p k)
  | 0 => by unfold sumI I32; omega
  | k + 1 => addI_i32 _ _

theorem index4 (p : Nat → Int) (k : Nat) (hk : k < 4) (w : World) : (Instr.index 28 (.agg #[.int .i32 (p 0), .int .i32 (p 1), .int .i32 (p 2), .int .i32 (p 3)]) (.int .i64 k)).run Tryz.prog w = .ok (.int .i32 (p k)) w := by
  rcases (by omega : k = 0 ∨ k = 1 ∨ k = 2 ∨ k = 3) with rfl | rfl | rfl | rfl
  · have h : ∀ x0 x1 x2 x3 : Value, (Instr.index 28 (.agg #[x0, x1, x2, x3]) (.int .i64 0)).run Tryz.prog w = .ok x0 w := fun _ _ _ _ => by kernel_rfl
    exact h _ _ _ _
  · have h : ∀ x0 x1 x2 x3 : Value, (Instr.index 28 (.agg #[x0, x1, x2, x3]) (.int .i64 1)).run Tryz.prog w = .ok x1 w := fun _ _ _ _ => by kernel_rfl
    exact h _ _ _ _
  · have h : ∀ x0 x1 x2 x3 : Value, (Instr.index 28 (.agg #[x0, x1, x2, x3]) (.int .i64 2)).run Tryz.prog w = .ok x2 w := fun _ _ _ _ => by kernel_rfl
    exact h _ _ _ _
  · have h : ∀ x0 x1 x2 x3 : Value, (Instr.index 28 (.agg #[x0, x1, x2, x3]) (.int .i64 3)).run Tryz.prog w = .ok x3 w := fun _ _ _ _ => by kernel_rfl
    exact h _ _ _ _

set_option maxHeartbeats 1000000 in
theorem dot_any (n : Int) (a b : Nat → Int) (w : World) (h1 : 1 ≤ n) (h4 : n ≤ 4) (Ia : ∀ i, I32 (a i)) (Ib : ∀ i, I32 (b i)) :
    Calls Tryz.prog 108 #[.int .i64 n, .agg #[.int .i32 (a 0), .int .i32 (a 1), .int .i32 (a 2), .int .i32 (a 3)], .agg #[.int .i32 (b 0), .int .i32 (b 1), .int .i32 (b 2), .int .i32 (b 3)]] w fun e w' => e = .returned (.tuple #[.int .i32 (sumI (cut n (fun i => mulI (a i) (b i))) 4), .int .i64 0]) ∧ Ext w w' := by
  have HP : Hid (∀ i, I32 (cut n (fun i => mulI (a i) (b i)) i)) := cut_i32 (fun i => mulI_i32 _ _)
  generalize hp : cut n (fun i => mulI (a i) (b i)) = p at *
  have HE := hide hp
  clear hp
  go_enter Tryz.func108, Tryz.ntmps108
  go_wp2_with fail
  refine (two_any 2 n a b _ (by omega) (by omega) h1 h4 Ia Ib).mono ?_
  rintro e w1 ⟨rfl, hx⟩
  have X := hide ((((Ext.refl w).alloc _).alloc _).trans hx)
  clear hx
  rw [show (fun i => twoI 2 (a i) (b i)) = (fun i => mulI (a i) (b i)) from rfl, unhide HE]
  go_wp2
  go_loopw [10, 24] (fun s i wr => ∃ k : Nat, k ≤ 4 ∧ i = .int .i64 k ∧ s = .int .i32 (sumI p k) ∧ Ext w wr) (fun _ i _ => 4 - (intOf i).toNat)
  case atStart => exact ⟨0, by omega, rfl, rfl, (unhide X).alloc _⟩
  case round =>
    obtain ⟨k, hk, rfl, rfl, hx⟩ := hrel
    have X2 := hide hx
    clear hx X
    by_cases hlt : k < 4
    · have hi4 : (k : Int) < 4 := by omega
      have hix := index4 p k hlt
      go_wp2_with fail
      refine (add_any _ _ _ (sumI_i32 p k) (unhide HP k)).mono ?_
      rintro e w1 ⟨rfl, rfl⟩
      go_wp2
      go_roundw
      case rel => exact ⟨k + 1, by omega, by go_num, rfl, unhide X2⟩
      case measure => simp [intOf]; omega
    · obtain rfl : k = 4 := by omega
      go_wp2
      go_ret2
      exact ⟨rfl, unhide X2⟩

theorem dot_off (n : Int) (a b : Nat → Int) (w : World) (h : n < 1 ∨ 4 < n) :
    Calls Tryz.prog 108 #[.int .i64 n, .agg #[.int .i32 (a 0), .int .i32 (a 1), .int .i32 (a 2), .int .i32 (a 3)], .agg #[.int .i32 (b 0), .int .i32 (b 1), .int .i32 (b 2), .int .i32 (b 3)]] w fun e w' => e = .returned (.tuple #[.int .i32 0, .int .i64 2]) ∧ Ext w w' := by
  go_enter Tryz.func108, Tryz.ntmps108
  go_wp2_with fail
  refine (two_off 2 n a b _ (by omega) (by omega) h).mono ?_
  rintro e w1 ⟨rfl, hx⟩
  have X := hide ((((Ext.refl w).alloc _).alloc _).trans hx)
  clear hx
  go_wp2
  go_ret2
  exact ⟨rfl, (unhide X).alloc _⟩

/-- The vector of four numbers. -/
def v4 (x0 x1 x2 x3 : Int) (i : Nat) : Int := if i = 0 then x0 else if i = 1 then x1 else if i = 2 then x2 else if i = 3 then x3 else 0

theorem v4_i32 {x0 x1 x2 x3 : Int} (h0 : I32 x0) (h1 : I32 x1) (h2 : I32 x2) (h3 : I32 x3) (i : Nat) : I32 (v4 x0 x1 x2 x3 i) := by
  unfold v4
  split; exact h0
  split; exact h1
  split; exact h2
  split; exact h3
  unfold I32; omega

/-- What '==' says of two vectors. -/
theorem eqV (x0 x1 x2 x3 y0 y1 y2 y3 : Int) (w : World) : (Op.equalIn 10000 28 (.agg #[.int .i32 x0, .int .i32 x1, .int .i32 x2, .int .i32 x3]) (.agg #[.int .i32 y0, .int .i32 y1, .int .i32 y2, .int .i32 y3])).run Tryz.prog w = .ok (x0 == y0 && (x1 == y1 && (x2 == y2 && x3 == y3))) w := by
  have u3 := Tryz.underlying26
  have a3 := Tryz.isAgg26
  have z3 := Tryz.sizeOf26
  rw [show (10000 : Nat) = 9999 + 1 from rfl, Op.equalIn]
  simp only [Sem.run_bind, run_underlying Tryz.underlying28, Result.andThen_ok]
  simp only [Std.Legacy.Range.forIn_eq_forIn_range', Std.Legacy.Range.size, Nat.sub_zero, Nat.add_sub_cancel, Nat.div_one, List.range'_succ, List.range'_zero, List.forIn_cons, List.forIn_nil]
  go_simp
  by_cases h1 : x0 = y0 <;> by_cases h2 : x1 = y1 <;> by_cases h3 : x2 = y2 <;> by_cases h4 : x3 = y3 <;> simp [h1, h2, h3, h4]

end Go.Proofs.YtglfhmlcmffoaaaGreat

/-
  The walks of maths' lengths. What the dump lacks is left out.
-/
namespace Go.Proofs.YtglfhmlcmffoaaaGreat
open Go.RowKit
set_option linter.unusedVariables false
set_option linter.unusedSimpArgs false

/-- How many numbers are meant by n. -/
def cntM (n : Int) : Int := min (max n 0) 4
theorem cntM_bounds (n : Int) : 0 ≤ cntM n ∧ cntM n ≤ 4 := by unfold cntM; omega

theorem counted_any (n : Int) (w : World) :
    Calls Tryz.prog 148 #[.int .i64 n] w fun e w' => e = .returned (.int .i64 (cntM n)) ∧ w' = w := by
  go_enter Tryz.func148, Tryz.ntmps148
  go_wp2
  all_goals go_ret
  all_goals refine ⟨?_, rfl⟩
  all_goals simp [cntM]
  all_goals omega

theorem sq_i32 {x : Int} (h : I32 x) : 0 ≤ x * x ∧ x * x ≤ 4611686018427387904 := by
  have h1 := mul_i32 h h
  have h2 : 0 ≤ x * x := by
    rcases Int.le_total 0 x with h | h
    · exact Int.mul_nonneg h h
    · exact Int.mul_nonneg_of_nonpos_of_nonpos h h
  omega

theorem len1_any (x s : Int) (b : Nat) (w : World) (hx : I32 x) (hs0 : 0 ≤ s) (hs1 : s ≤ 4611686018427387904) (hc : w.cell? ⟨b, 0, none⟩ = some (.int .u64 s)) (hf : w.frozen? ⟨b, 0, none⟩ = false) :
    Calls Tryz.prog 147 #[.int .i32 x, .pointer (some ⟨b, 0, none⟩)] w fun e w' => e = .returned (.tuple #[]) ∧ w' = w.setCell ⟨b, 0, none⟩ (.int .u64 (min (s + x * x) 4611686018427387904)) := by
  have hq := sq_i32 hx
  unfold I32 at hx
  go_enter Tryz.func147, Tryz.ntmps147
  go_wp2
  all_goals go_end0
  all_goals first
    | exact ⟨rfl, rfl⟩
    | exact ⟨rfl, by rw [show min (s + x * x) 4611686018427387904 = 4611686018427387904 by omega]⟩
    | exact ⟨rfl, by rw [show min (s + x * x) 4611686018427387904 = s + x * x by omega]⟩

/-- The sum of the squares of the first k numbers, held at 2^62. -/
def lsI (a : Nat → Int) : Nat → Int
  | 0 => 0
  | k + 1 => min (lsI a k + a k * a k) 4611686018427387904
theorem lsI_bounds {a : Nat → Int} (h : ∀ i, I32 (a i)) : ∀ k, 0 ≤ lsI a k ∧ lsI a k ≤ 4611686018427387904
  | 0 => by simp [lsI]
  | k + 1 => by
    have ih := lsI_bounds h k
    have hq := sq_i32 (h k)
    unfold lsI
    omega
/-- The raw of how long the vector of a's first n numbers is. -/
def lengthI (a : Nat → Int) (n : Int) : Int := rawI (rootI (lsI a (cntM n).toNat))
theorem lengthI_i32 (a : Nat → Int) (n : Int) : I32 (lengthI a n) := rawI_i32 _

set_option maxHeartbeats 1000000 in
theorem length_any (a : Nat → Int) (n : Int) (w : World) (Ia : ∀ i, I32 (a i)) :
    Calls Tryz.prog 109 #[.agg #[.int .i32 (a 0), .int .i32 (a 1), .int .i32 (a 2), .int .i32 (a 3)], .int .i64 n] w fun e w' => e = .returned (.int .i32 (lengthI a n)) ∧ Ext w w' := by
  have HI := hide Ia
  clear Ia
  have hcb := cntM_bounds n
  have HL : Hid (lengthI a n = rawI (rootI (lsI a (cntM n).toNat))) := rfl
  have B0 : Hid (Blk ((w.alloc (.cells #[.int .i32 (a 0), .int .i32 (a 1), .int .i32 (a 2), .int .i32 (a 3)] 28)).alloc (.cells #[.int .u64 0] 113)) w.heap.size #[.int .i32 (a 0), .int .i32 (a 1), .int .i32 (a 2), .int .i32 (a 3)] 28) := (Blk.new w _ _).alloc _
  have B1 : Hid (Blk ((w.alloc (.cells #[.int .i32 (a 0), .int .i32 (a 1), .int .i32 (a 2), .int .i32 (a 3)] 28)).alloc (.cells #[.int .u64 0] 113)) (w.heap.size + 1) #[.int .u64 0] 113) := Blk.at (by simp)
  go_enter Tryz.func109, Tryz.ntmps109
  go_wp2_with fail
  refine (counted_any _ _).mono ?_
  rintro e w1 ⟨rfl, rfl⟩
  obtain ⟨c, hc⟩ : ∃ c : Nat, cntM n = (c : Int) := ⟨(cntM n).toNat, by omega⟩
  rw [hc] at HL hcb ⊢
  clear hc
  have hc4 : c ≤ 4 := by omega
  go_wp2
  go_loopw [14] (fun i wr => ∃ k : Nat, k ≤ c ∧ i = .int .i64 k ∧ Blk wr w.heap.size #[.int .i32 (a 0), .int .i32 (a 1), .int .i32 (a 2), .int .i32 (a 3)] 28 ∧ Blk wr (w.heap.size + 1) #[.int .u64 (lsI a k)] 113 ∧ Ext w wr) (fun i _ => c - (intOf i).toNat)
  case atStart => exact ⟨0, by omega, rfl, unhide B0, unhide B1, ((Ext.refl w).alloc _).alloc _⟩
  case round =>
    obtain ⟨k, hk, rfl, hb0, hb1, hx⟩ := hrel
    clear B0 B1
    have D := hide (And.intro hb0 (And.intro hb1 hx))
    clear hb0 hb1 hx
    by_cases hlt : k < c
    · have hkc : (k : Int) < (c : Int) := by omega
      have hk4 : k < 4 := by omega
      have c0 := (unhide D).1.vec k hk4
      have hl := lsI_bounds (unhide HI) k
      go_wp2_with fail
      refine (len1_any _ (lsI a k) _ _ (unhide HI k) hl.1 hl.2 ((unhide D).2.1.cell rfl) ((unhide D).2.1.free 0)).mono ?_
      rintro e w1 ⟨rfl, rfl⟩
      go_wp2
      go_roundw
      case rel =>
        refine ⟨k + 1, by omega, by go_num, (unhide D).1.other 0 _ (by omega), ?_, ext_set (unhide D).2.2 (by omega)⟩
        exact (unhide D).2.1.set 0 _
      case measure => simp [intOf]; omega
    · obtain rfl : k = c := by omega
      have c0 := (unhide D).2.1.cell (i := 0) rfl
      have hl := lsI_bounds (unhide HI) k
      rw [show ((k : Int)).toNat = k by omega] at HL
      go_wp2_with fail
      refine (ofRoot_any _ _ hl.1 (by omega)).mono ?_
      rintro e w1 ⟨rfl, rfl⟩
      go_wp2
      go_ret
      exact ⟨by rw [unhide HL]; rfl, (unhide D).2.2⟩

/-- The numbers of a vector over its length. -/
def unitI (a : Nat → Int) (n : Int) : Nat → Int := cut (cntM n) (fun i => divI (a i) (lengthI a n))
theorem unitI_i32 (a : Nat → Int) (n : Int) (i : Nat) : I32 (unitI a n i) := cut_i32 (fun i => divI_i32 _ _) i
theorem cntI_cnt (n : Int) : cntM (cntM n) = cntM n := by unfold cntM; omega
theorem lengthI_cnt (a : Nat → Int) (n : Int) : lengthI a (cntM n) = lengthI a n := by unfold lengthI; rw [cntI_cnt]

set_option maxHeartbeats 1000000 in
theorem normalize_any (a : Nat → Int) (n : Int) (w : World) (Ia : ∀ i, I32 (a i)) :
    Calls Tryz.prog 111 #[.agg #[.int .i32 (a 0), .int .i32 (a 1), .int .i32 (a 2), .int .i32 (a 3)], .int .i64 n] w fun e w' => e = .returned (.agg #[.int .i32 (unitI a n 0), .int .i32 (unitI a n 1), .int .i32 (unitI a n 2), .int .i32 (unitI a n 3)]) ∧ Ext w w' := by
  have HI := hide Ia
  clear Ia
  have hcb := cntM_bounds n
  have HU : Hid (unitI a n = cut (cntM n) (fun i => divI (a i) (lengthI a n))) := rfl
  have HL := hide (lengthI_cnt a n)
  have B0 : Hid (Blk ((w.alloc (.cells #[.int .i32 (a 0), .int .i32 (a 1), .int .i32 (a 2), .int .i32 (a 3)] 28)).alloc (.cells #[.int .i32 0, .int .i32 0, .int .i32 0, .int .i32 0] 28)) w.heap.size #[.int .i32 (a 0), .int .i32 (a 1), .int .i32 (a 2), .int .i32 (a 3)] 28) := (Blk.new w _ _).alloc _
  have B1 : Hid (Blk ((w.alloc (.cells #[.int .i32 (a 0), .int .i32 (a 1), .int .i32 (a 2), .int .i32 (a 3)] 28)).alloc (.cells #[.int .i32 0, .int .i32 0, .int .i32 0, .int .i32 0] 28)) (w.heap.size + 1) #[.int .i32 (nul 0), .int .i32 (nul 1), .int .i32 (nul 2), .int .i32 (nul 3)] 28) := Blk.at (by simp)
  have X : Hid (Ext w ((w.alloc (.cells #[.int .i32 (a 0), .int .i32 (a 1), .int .i32 (a 2), .int .i32 (a 3)] 28)).alloc (.cells #[.int .i32 0, .int .i32 0, .int .i32 0, .int .i32 0] 28))) := ((Ext.refl w).alloc _).alloc _
  go_enter Tryz.func111, Tryz.ntmps111
  go_wp2_with fail
  refine (counted_any _ _).mono ?_
  rintro e w1 ⟨rfl, rfl⟩
  generalize hce : cntM n = c at *
  have HC := hide hce
  clear hce
  obtain ⟨r0, r1, r2, r3⟩ := Blk.vec4 (a := nul) (unhide B1)
  obtain ⟨f0, f1, f2, f3⟩ := (unhide B1).free4
  by_cases h0 : c = 0
  · subst h0
    have HZ : Hid (unitI a n = nul) := by
      show _ = _
      rw [unhide HU]
      funext i
      simp [cut, nul]
      omega
    go_wp2
    refine bodyPost_ret (v := .agg #[.int .i32 0, .int .i32 0, .int .i32 0, .int .i32 0]) (by simp [results, Tryz.results111, go_sem, r0, r1, r2, r3, nul]) rfl ⟨by rw [unhide HZ]; rfl, ?_⟩
    exact unhide X
  · have d0 : (c == 0) = false := by simp; omega
    clear r0 r1 r2 r3 f0 f1 f2 f3
    obtain ⟨p0, p1, p2, p3⟩ := (unhide B0).vec4
    go_wp2_with fail
    refine (length_any a c _ (unhide HI)).mono ?_
    rintro e w2 ⟨rfl, hx⟩
    rw [unhide HL]
    have C0 := hide ((unhide B0).ext hx)
    have C1 := hide ((unhide B1).ext hx)
    have Y := hide ((unhide X).trans hx)
    clear B0 B1 X hx p0 p1 p2 p3
    generalize hle : lengthI a n = L at *
    have HLi := hide (hle ▸ lengthI_i32 a n : I32 L)
    have HLE := hide hle
    clear hle
    go_wp2_with fail
    refine (all_any c L _ (by omega) (by omega)).mono ?_
    rintro e w3 ⟨rfl, hx⟩
    have D0 := hide (((unhide C0).ext hx).alloc (.cells #[.int .i32 (cut c (fun _ => L) 0), .int .i32 (cut c (fun _ => L) 1), .int .i32 (cut c (fun _ => L) 2), .int .i32 (cut c (fun _ => L) 3)] 28))
    have D1 := hide (((unhide C1).ext hx).alloc (.cells #[.int .i32 (cut c (fun _ => L) 0), .int .i32 (cut c (fun _ => L) 1), .int .i32 (cut c (fun _ => L) 2), .int .i32 (cut c (fun _ => L) 3)] 28))
    have D2 := hide (Blk.at (w := w3) (cs := #[.int .i32 (cut c (fun _ => L) 0), .int .i32 (cut c (fun _ => L) 1), .int .i32 (cut c (fun _ => L) 2), .int .i32 (cut c (fun _ => L) 3)]) (t := 28) rfl)
    have Z := hide (((unhide Y).trans hx).alloc (.cells #[.int .i32 (cut c (fun _ => L) 0), .int .i32 (cut c (fun _ => L) 1), .int .i32 (cut c (fun _ => L) 2), .int .i32 (cut c (fun _ => L) 3)] 28))
    clear C0 C1 Y hx
    obtain ⟨p0, p1, p2, p3⟩ := (unhide D0).vec4
    obtain ⟨q0, q1, q2, q3⟩ := (unhide D2).vec4
    have HK : Hid (∀ i, I32 (cut c (fun _ => L) i)) := cut_i32 (fun _ => unhide HLi)
    have HV : Hid (cut c (fun i => twoI 3 (a i) (cut c (fun _ => L) i)) = unitI a n) := by
      show _ = _
      rw [unhide HU]
      exact cut_congr fun i hi => by simp [cut, hi, twoI]
    go_wp2_with fail
    refine (two_any 3 c a (cut c (fun _ => L)) _ (by omega) (by omega) (by omega) (by omega) (unhide HI) (unhide HK)).mono ?_
    rintro e w4 ⟨rfl, hx⟩
    rw [unhide HV]
    clear p0 p1 p2 p3 q0 q1 q2 q3
    generalize hue : unitI a n = u at *
    have HUE := hide hue
    clear hue
    have E1 := hide (((unhide D1).ext hx).alloc (.cells #[.int .i32 (u 0), .int .i32 (u 1), .int .i32 (u 2), .int .i32 (u 3)] 28))
    have E2 := hide (Blk.at (w := w4) (cs := #[.int .i32 (u 0), .int .i32 (u 1), .int .i32 (u 2), .int .i32 (u 3)]) (t := 28) rfl)
    have Z2 := hide (((unhide Z).trans hx).alloc (.cells #[.int .i32 (u 0), .int .i32 (u 1), .int .i32 (u 2), .int .i32 (u 3)] 28))
    clear D0 D1 D2 Z hx
    obtain ⟨p0, p1, p2, p3⟩ := (unhide E2).vec4
    obtain ⟨r0, r1, r2, r3⟩ := Blk.vec4 (a := nul) (unhide E1)
    obtain ⟨f0, f1, f2, f3⟩ := (unhide E1).free4
    go_wp2
    obtain ⟨q0, q1, q2, q3⟩ := lay4 (a := nul) (unhide E1) (.int .i32 (u 0)) (.int .i32 (u 1)) (.int .i32 (u 2)) (.int .i32 (u 3))
    refine bodyPost_ret (v := .agg #[.int .i32 (u 0), .int .i32 (u 1), .int .i32 (u 2), .int .i32 (u 3)]) (by simp [results, Tryz.results111, go_sem, q0, q1, q2, q3]) rfl ⟨by rw [unhide HUE], ?_⟩
    exact ext_set4 (b := w.heap.size + 1) (unhide Z2) (by omega)

end Go.Proofs.YtglfhmlcmffoaaaGreat
