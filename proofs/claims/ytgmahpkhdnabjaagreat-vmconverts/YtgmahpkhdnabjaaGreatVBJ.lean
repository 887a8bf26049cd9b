/- Several texts in one. -/
import Derived.Test.YtgmahpkhdnabjaaGreatFxAJ
/-
  Vectors: the operations of two and of one, by component, and All.
-/
namespace Go.Proofs.YtgmahpkhdnabjaaGreat
open Go.RowKit
set_option linter.unusedVariables false

theorem two1_any (i : Nat) (hi : i < 4) (g : FuncId) (F : Int → Int → Int) (a b : Nat → Int) (bd ba bb : Nat) (w : World)
    (eg : ∀ args w, (callFunc g args).run Tryz.prog w = .ok (.enter g args) w)
    (hF : ∀ x y W, I32 x → I32 y → Calls Tryz.prog g #[.int .i32 x, .int .i32 y] W fun e w' => e = .returned (.int .i32 (F x y)) ∧ w' = W)
    (hd : w.cell? ⟨bd, 0, none⟩ = some (.func (.func g) #[] #[])) (ha : Blk w ba #[.int .i32 (a 0), .int .i32 (a 1), .int .i32 (a 2), .int .i32 (a 3)] 28) (hb : Blk w bb #[.int .i32 (b 0), .int .i32 (b 1), .int .i32 (b 2), .int .i32 (b 3)] 28) (Ia : ∀ i, I32 (a i)) (Ib : ∀ i, I32 (b i)) :
    Calls Tryz.prog 182 #[.int .i64 i, .pointer (some ⟨bd, 0, none⟩), .pointer (some ⟨ba, 0, none⟩), .pointer (some ⟨bb, 0, none⟩)] w fun e w' => e = .returned (.int .i32 (F (a i) (b i))) ∧ Ext w w' := by
  have ca := ha.vec i hi
  have cb := hb.vec i hi
  have hi4 : (i : Int) < 4 := by omega
  have HF := hide hF
  have HI := hide (And.intro (Ia i) (Ib i))
  clear hF Ia Ib ha hb
  go_enter Tryz.func182, Tryz.ntmps182
  go_wp2
  go_quiet (first | (go_at_fn g; refine Calls.quiet_of_same (unhide HF _ _ _ (unhide HI).1 (unhide HI).2)))
  go_wp2
  go_ret
  exact ⟨rfl, (Ext.refl w).drewN _⟩

theorem step_any (a b : Int) (w : World) :
    Calls Tryz.prog 204 #[.int .i32 a, .int .i32 b] w fun e w' => e = .returned (.int .i32 (if a ≤ b then 65536 else 0)) ∧ w' = w := by
  go_enter Tryz.func204, Tryz.ntmps204
  go_wp2
  all_goals go_ret
  all_goals refine ⟨?_, rfl⟩
  all_goals simp
  all_goals omega

/-- What the operation number op of two does with two numbers. -/
def twoI (op : Int) (a b : Int) : Int :=
  if op = 0 then addI a b else if op = 1 then subI a b else if op = 2 then mulI a b else if op = 3 then divI a b else if op = 4 then min a b else if op = 5 then max a b else if op = 6 then modI a b else if a ≤ b then 65536 else 0

theorem twoI_i32 (op : Int) {a b : Int} (ha : I32 a) (hb : I32 b) : I32 (twoI op a b) := by
  unfold twoI
  split; exact addI_i32 _ _
  split; exact subI_i32 _ _
  split; exact mulI_i32 _ _
  split; exact divI_i32 _ _
  split; unfold I32 at *; omega
  split; unfold I32 at *; omega
  split; exact subI_i32 _ _
  unfold I32
  split <;> omega

/-- The number of the function that does the operation number op of two. -/
def twoF (op : Int) : FuncId :=
  if op = 0 then 152 else if op = 1 then 154 else if op = 2 then 153 else if op = 3 then 200 else if op = 4 then 201 else if op = 5 then 202 else if op = 6 then 203 else 204

theorem op_cases {op : Int} (h0 : 0 ≤ op) (h7 : op ≤ 7) : op = 0 ∨ op = 1 ∨ op = 2 ∨ op = 3 ∨ op = 4 ∨ op = 5 ∨ op = 6 ∨ op = 7 := by omega

theorem ofTwo_any (op : Int) (w : World) (h0 : 0 ≤ op) (h7 : op ≤ 7) :
    Calls Tryz.prog 181 #[.int .i64 op] w fun e w' => e = .returned (.func (.func (twoF op)) #[] #[]) ∧ w' = w := by
  rcases op_cases h0 h7 with rfl | rfl | rfl | rfl | rfl | rfl | rfl | rfl
  all_goals go_enter Tryz.func181, Tryz.ntmps181
  all_goals go_wp2
  all_goals go_ret
  all_goals exact ⟨rfl, rfl⟩

theorem ofTwo_bad (op : Int) (w : World) (h : op < 0 ∨ 7 < op) :
    Calls Tryz.prog 181 #[.int .i64 op] w fun e w' => e = .returned .nilFunc ∧ w' = w := by
  have d0 : (op == 0) = false := by simp; omega
  have d1 : (op == 1) = false := by simp; omega
  have d2 : (op == 2) = false := by simp; omega
  have d3 : (op == 3) = false := by simp; omega
  have d4 : (op == 4) = false := by simp; omega
  have d5 : (op == 5) = false := by simp; omega
  have d6 : (op == 6) = false := by simp; omega
  have d7 : (op == 7) = false := by simp; omega
  go_enter Tryz.func181, Tryz.ntmps181
  go_wp2
  go_ret
  exact ⟨rfl, rfl⟩

theorem twoF_enters (op : Int) (h0 : 0 ≤ op) (h7 : op ≤ 7) : ∀ args w, (callFunc (twoF op) args).run Tryz.prog w = .ok (.enter (twoF op) args) w := by
  rcases op_cases h0 h7 with rfl | rfl | rfl | rfl | rfl | rfl | rfl | rfl
  · exact enters_of Tryz.func152 (by kernel_rfl) rfl
  · exact enters_of Tryz.func154 (by kernel_rfl) rfl
  · exact enters_of Tryz.func153 (by kernel_rfl) rfl
  · exact enters_of Tryz.func200 (by kernel_rfl) rfl
  · exact enters_of Tryz.func201 (by kernel_rfl) rfl
  · exact enters_of Tryz.func202 (by kernel_rfl) rfl
  · exact enters_of Tryz.func203 (by kernel_rfl) rfl
  · exact enters_of Tryz.func204 (by kernel_rfl) rfl

theorem twoF_does (op : Int) (h0 : 0 ≤ op) (h7 : op ≤ 7) (x y : Int) (w : World) (hx : I32 x) (hy : I32 y) :
    Calls Tryz.prog (twoF op) #[.int .i32 x, .int .i32 y] w fun e w' => e = .returned (.int .i32 (twoI op x y)) ∧ w' = w := by
  rcases op_cases h0 h7 with rfl | rfl | rfl | rfl | rfl | rfl | rfl | rfl
  · exact add_any x y w hx hy
  · exact sub_any x y w hx hy
  · exact mul_any x y w hx hy
  · exact div_any x y w hx hy
  · exact min_any x y w
  · exact max_any x y w
  · exact mod_any x y w hx hy
  · exact step_any x y w

end Go.Proofs.YtgmahpkhdnabjaaGreat

/-
  Vectors: Two.
-/
namespace Go.Proofs.YtgmahpkhdnabjaaGreat
open Go.RowKit
set_option linter.unusedVariables false

theorem two1_enters : ∀ args w, (callFunc 182 args).run Tryz.prog w = .ok (.enter 182 args) w := enters_of Tryz.func182 (by kernel_rfl) rfl

theorem eql_two (w : World) (g : FuncId) : (binOp .eql 100 (.func (.func g) #[] #[]) .nilFunc).run Tryz.prog w = .ok (.bool false) w := by kernel_rfl
theorem eql_two_nil (w : World) : (binOp .eql 100 .nilFunc .nilFunc).run Tryz.prog w = .ok (.bool true) w := by kernel_rfl

set_option maxHeartbeats 1000000 in
theorem two_any (op n : Int) (a b : Nat → Int) (w : World) (h0 : 0 ≤ op) (h7 : op ≤ 7) (h1 : 1 ≤ n) (h4 : n ≤ 4) (Ia : ∀ i, I32 (a i)) (Ib : ∀ i, I32 (b i)) :
    Calls Tryz.prog 157 #[.int .i64 op, .int .i64 n, .agg #[.int .i32 (a 0), .int .i32 (a 1), .int .i32 (a 2), .int .i32 (a 3)], .agg #[.int .i32 (b 0), .int .i32 (b 1), .int .i32 (b 2), .int .i32 (b 3)]] w fun e w' => e = .returned (.tuple #[.agg #[.int .i32 (cut n (fun i => twoI op (a i) (b i)) 0), .int .i32 (cut n (fun i => twoI op (a i) (b i)) 1), .int .i32 (cut n (fun i => twoI op (a i) (b i)) 2), .int .i32 (cut n (fun i => twoI op (a i) (b i)) 3)], .int .i64 0]) ∧ Ext w w' := by
  have HI := hide (And.intro Ia Ib)
  clear Ia Ib
  have hq := eql_two
  go_enter Tryz.func157, Tryz.ntmps157
  go_wp2_with fail
  refine (ofTwo_any _ _ h0 h7).mono ?_
  rintro e w1 ⟨rfl, rfl⟩
  go_wp2_with fail
  refine (each_any n 182 _ (fun i => twoI op (a i) (b i)) _ h1 h4 two1_enters (by
    intro i W hi _ hx
    exact two1_any i hi (twoF op) (twoI op) a b _ _ _ W (twoF_enters op h0 h7) (fun x y W hx hy => twoF_does op h0 h7 x y W hx hy) (((Blk.at (by simp)).ext hx).cell rfl) ((((Blk.at rfl).alloc _).alloc _).alloc _ |>.ext hx) ((((Blk.at (by simp)).alloc _).alloc _).ext hx) (unhide HI).1 (unhide HI).2)).mono ?_
  rintro e w1 ⟨rfl, hx⟩
  have R := hide (And.intro (((Blk.at (b := w.heap.size + 1 + 1) (by simp)).alloc _).ext hx) ((((((Ext.refl w).alloc _).alloc _).alloc _).alloc _).trans hx))
  clear hx
  obtain ⟨r0, r1, r2, r3⟩ := Blk.vec4 (a := nul) (unhide R).1
  obtain ⟨f0, f1, f2, f3⟩ := (unhide R).1.free4
  go_wp2
  obtain ⟨q0, q1, q2, q3⟩ := lay4 (a := nul) (unhide R).1 (.int .i32 (cut n (fun i => twoI op (a i) (b i)) 0)) (.int .i32 (cut n (fun i => twoI op (a i) (b i)) 1)) (.int .i32 (cut n (fun i => twoI op (a i) (b i)) 2)) (.int .i32 (cut n (fun i => twoI op (a i) (b i)) 3))
  refine bodyPost_ret (v := .tuple #[.agg #[.int .i32 (cut n (fun i => twoI op (a i) (b i)) 0), .int .i32 (cut n (fun i => twoI op (a i) (b i)) 1), .int .i32 (cut n (fun i => twoI op (a i) (b i)) 2), .int .i32 (cut n (fun i => twoI op (a i) (b i)) 3)], .int .i64 0]) (by simp [results, Tryz.results157, go_sem, q0, q1, q2, q3]) rfl ⟨rfl, ?_⟩
  exact ext_set4 (unhide R).2 (by omega)

theorem two_bad (op n : Int) (a b : Nat → Int) (w : World) (h : op < 0 ∨ 7 < op) :
    Calls Tryz.prog 157 #[.int .i64 op, .int .i64 n, .agg #[.int .i32 (a 0), .int .i32 (a 1), .int .i32 (a 2), .int .i32 (a 3)], .agg #[.int .i32 (b 0), .int .i32 (b 1), .int .i32 (b 2), .int .i32 (b 3)]] w fun e w' => e = .returned (.tuple #[.agg #[.int .i32 0, .int .i32 0, .int .i32 0, .int .i32 0], .int .i64 2]) ∧ Ext w w' := by
  have hq := eql_two_nil
  go_enter Tryz.func157, Tryz.ntmps157
  go_wp2_with fail
  refine (ofTwo_bad _ _ h).mono ?_
  rintro e w1 ⟨rfl, rfl⟩
  go_wp2
  refine bodyPost_ret (v := .tuple #[.agg #[.int .i32 0, .int .i32 0, .int .i32 0, .int .i32 0], .int .i64 2]) (by simp [results, Tryz.results157, go_sem]) rfl ⟨rfl, ?_⟩
  exact ((((Ext.refl w).alloc _).alloc _).alloc _).alloc _

theorem two_off (op n : Int) (a b : Nat → Int) (w : World) (h0 : 0 ≤ op) (h7 : op ≤ 7) (h : n < 1 ∨ 4 < n) :
    Calls Tryz.prog 157 #[.int .i64 op, .int .i64 n, .agg #[.int .i32 (a 0), .int .i32 (a 1), .int .i32 (a 2), .int .i32 (a 3)], .agg #[.int .i32 (b 0), .int .i32 (b 1), .int .i32 (b 2), .int .i32 (b 3)]] w fun e w' => e = .returned (.tuple #[.agg #[.int .i32 0, .int .i32 0, .int .i32 0, .int .i32 0], .int .i64 2]) ∧ Ext w w' := by
  have hq := eql_two
  go_enter Tryz.func157, Tryz.ntmps157
  go_wp2_with fail
  refine (ofTwo_any _ _ h0 h7).mono ?_
  rintro e w1 ⟨rfl, rfl⟩
  go_wp2_with fail
  refine (each_bad _ _ _ h).mono ?_
  rintro e w1 ⟨rfl, hx⟩
  have R := hide (And.intro (((Blk.at (b := w.heap.size + 1 + 1) (by simp)).alloc _).ext hx) ((((((Ext.refl w).alloc _).alloc _).alloc _).alloc _).trans hx))
  clear hx
  obtain ⟨r0, r1, r2, r3⟩ := Blk.vec4 (a := nul) (unhide R).1
  obtain ⟨f0, f1, f2, f3⟩ := (unhide R).1.free4
  go_wp2
  obtain ⟨q0, q1, q2, q3⟩ := lay4 (a := nul) (unhide R).1 (.int .i32 0) (.int .i32 0) (.int .i32 0) (.int .i32 0)
  refine bodyPost_ret (v := .tuple #[.agg #[.int .i32 0, .int .i32 0, .int .i32 0, .int .i32 0], .int .i64 2]) (by simp [results, Tryz.results157, go_sem, q0, q1, q2, q3]) rfl ⟨rfl, ?_⟩
  exact ext_set4 (unhide R).2 (by omega)
end Go.Proofs.YtgmahpkhdnabjaaGreat

/-
  Vectors: One, All, Mix, Clamp. What the dump lacks is left out.
-/
namespace Go.Proofs.YtgmahpkhdnabjaaGreat
open Go.RowKit
set_option linter.unusedVariables false

theorem one1_any (i : Nat) (hi : i < 4) (g : FuncId) (F : Int → Int) (a : Nat → Int) (bd ba : Nat) (w : World)
    (eg : ∀ args w, (callFunc g args).run Tryz.prog w = .ok (.enter g args) w)
    (hF : ∀ x W, I32 x → Calls Tryz.prog g #[.int .i32 x] W fun e w' => e = .returned (.int .i32 (F x)) ∧ w' = W)
    (hd : w.cell? ⟨bd, 0, none⟩ = some (.func (.func g) #[] #[])) (ha : Blk w ba #[.int .i32 (a 0), .int .i32 (a 1), .int .i32 (a 2), .int .i32 (a 3)] 28) (Ia : ∀ i, I32 (a i)) :
    Calls Tryz.prog 186 #[.int .i64 i, .pointer (some ⟨bd, 0, none⟩), .pointer (some ⟨ba, 0, none⟩)] w fun e w' => e = .returned (.int .i32 (F (a i))) ∧ Ext w w' := by
  have ca := ha.vec i hi
  have hi4 : (i : Int) < 4 := by omega
  have HF := hide hF
  have HI := hide (Ia i)
  clear hF Ia ha
  go_enter Tryz.func186, Tryz.ntmps186
  go_wp2
  go_quiet (first | (go_at_fn g; refine Calls.quiet_of_same (unhide HF _ _ (unhide HI))))
  go_wp2
  go_ret
  exact ⟨rfl, (Ext.refl w).drewN _⟩

theorem all1_any (i : Nat) (x : Int) (ba : Nat) (w : World) (ha : w.cell? ⟨ba, 0, none⟩ = some (.int .i32 x)) :
    Calls Tryz.prog 184 #[.int .i64 i, .pointer (some ⟨ba, 0, none⟩)] w fun e w' => e = .returned (.int .i32 x) ∧ Ext w w' := by
  go_enter Tryz.func184, Tryz.ntmps184
  go_wp2
  go_ret
  exact ⟨rfl, Ext.refl w⟩

theorem mix1_any (i : Nat) (hi : i < 4) (a b t : Nat → Int) (ba bb bt : Nat) (w : World) (ha : Blk w ba #[.int .i32 (a 0), .int .i32 (a 1), .int .i32 (a 2), .int .i32 (a 3)] 28) (hb : Blk w bb #[.int .i32 (b 0), .int .i32 (b 1), .int .i32 (b 2), .int .i32 (b 3)] 28) (ht : Blk w bt #[.int .i32 (t 0), .int .i32 (t 1), .int .i32 (t 2), .int .i32 (t 3)] 28) (Ia : ∀ i, I32 (a i)) (Ib : ∀ i, I32 (b i)) (It : ∀ i, I32 (t i)) :
    Calls Tryz.prog 151 #[.int .i64 i, .pointer (some ⟨ba, 0, none⟩), .pointer (some ⟨bb, 0, none⟩), .pointer (some ⟨bt, 0, none⟩)] w fun e w' => e = .returned (.int .i32 (addI (a i) (mulI (subI (b i) (a i)) (t i)))) ∧ Ext w w' := by
  have ca := ha.vec i hi
  have cb := hb.vec i hi
  have ct := ht.vec i hi
  have hi4 : (i : Int) < 4 := by omega
  have HI := hide (And.intro (Ia i) (And.intro (Ib i) (It i)))
  clear Ia Ib It ha hb ht
  go_enter Tryz.func151, Tryz.ntmps151
  go_wp2
  go_quiet (first | (go_at_call 154; refine Calls.quiet_of_same (sub_any _ _ _ (unhide HI).2.1 (unhide HI).1)) | (go_at_call 153; refine Calls.quiet_of_same (mul_any _ _ _ (subI_i32 _ _) (unhide HI).2.2)) | (go_at_call 152; refine Calls.quiet_of_same (add_any _ _ _ (unhide HI).1 (mulI_i32 _ _))))
  go_wp2
  go_ret
  exact ⟨rfl, (Ext.refl w).drewN _⟩

theorem clamp1_any (i : Nat) (hi : i < 4) (a b t : Nat → Int) (ba bb bt : Nat) (w : World) (ha : Blk w ba #[.int .i32 (a 0), .int .i32 (a 1), .int .i32 (a 2), .int .i32 (a 3)] 28) (hb : Blk w bb #[.int .i32 (b 0), .int .i32 (b 1), .int .i32 (b 2), .int .i32 (b 3)] 28) (ht : Blk w bt #[.int .i32 (t 0), .int .i32 (t 1), .int .i32 (t 2), .int .i32 (t 3)] 28) :
    Calls Tryz.prog 155 #[.int .i64 i, .pointer (some ⟨ba, 0, none⟩), .pointer (some ⟨bb, 0, none⟩), .pointer (some ⟨bt, 0, none⟩)] w fun e w' => e = .returned (.int .i32 (clampI (a i) (b i) (t i))) ∧ Ext w w' := by
  have ca := ha.vec i hi
  have cb := hb.vec i hi
  have ct := ht.vec i hi
  have hi4 : (i : Int) < 4 := by omega
  clear ha hb ht
  go_enter Tryz.func155, Tryz.ntmps155
  go_wp2
  go_quiet (first | (go_at_call 156; refine Calls.quiet_of_same (clamp_any _ _ _ _)))
  go_wp2
  go_ret
  exact ⟨rfl, (Ext.refl w).drewN _⟩

/-- What the operation number op of one does with a number. -/
def oneI (op : Int) (a : Int) : Int :=
  if op = 0 then negI a else if op = 1 then absI a else if op = 2 then signI a else if op = 3 then floorI a else fractI a

-- for 165
def oneF (op : Int) : FuncId :=
  if op = 0 then 205 else if op = 1 then 206 else if op = 2 then 207 else if op = 3 then 208 else 209

theorem op1_cases {op : Int} (h0 : 0 ≤ op) (h4 : op ≤ 4) : op = 0 ∨ op = 1 ∨ op = 2 ∨ op = 3 ∨ op = 4 := by omega

theorem ofOne_any (op : Int) (w : World) (h0 : 0 ≤ op) (h4 : op ≤ 4) :
    Calls Tryz.prog 185 #[.int .i64 op] w fun e w' => e = .returned (.func (.func (oneF op)) #[] #[]) ∧ w' = w := by
  rcases op1_cases h0 h4 with rfl | rfl | rfl | rfl | rfl
  all_goals go_enter Tryz.func185, Tryz.ntmps185
  all_goals go_wp2
  all_goals go_ret
  all_goals exact ⟨rfl, rfl⟩

theorem ofOne_bad (op : Int) (w : World) (h : op < 0 ∨ 4 < op) :
    Calls Tryz.prog 185 #[.int .i64 op] w fun e w' => e = .returned .nilFunc ∧ w' = w := by
  have d0 : (op == 0) = false := by simp; omega
  have d1 : (op == 1) = false := by simp; omega
  have d2 : (op == 2) = false := by simp; omega
  have d3 : (op == 3) = false := by simp; omega
  have d4 : (op == 4) = false := by simp; omega
  go_enter Tryz.func185, Tryz.ntmps185
  go_wp2
  go_ret
  exact ⟨rfl, rfl⟩

-- for 165
theorem oneF_enters (op : Int) (h0 : 0 ≤ op) (h4 : op ≤ 4) : ∀ args w, (callFunc (oneF op) args).run Tryz.prog w = .ok (.enter (oneF op) args) w := by
  rcases op1_cases h0 h4 with rfl | rfl | rfl | rfl | rfl
  · exact enters_of Tryz.func205 (by kernel_rfl) rfl
  · exact enters_of Tryz.func206 (by kernel_rfl) rfl
  · exact enters_of Tryz.func207 (by kernel_rfl) rfl
  · exact enters_of Tryz.func208 (by kernel_rfl) rfl
  · exact enters_of Tryz.func209 (by kernel_rfl) rfl

-- for 165
theorem oneF_does (op : Int) (h0 : 0 ≤ op) (h4 : op ≤ 4) (x : Int) (w : World) (hx : I32 x) :
    Calls Tryz.prog (oneF op) #[.int .i32 x] w fun e w' => e = .returned (.int .i32 (oneI op x)) ∧ w' = w := by
  rcases op1_cases h0 h4 with rfl | rfl | rfl | rfl | rfl
  · exact neg_any x w hx
  · exact abs_any x w hx
  · exact sign_any x w
  · exact floor_any x w hx
  · exact fract_any x w hx

theorem eql_one (w : World) (g : FuncId) : (binOp .eql 99 (.func (.func g) #[] #[]) .nilFunc).run Tryz.prog w = .ok (.bool false) w := by kernel_rfl

theorem eql_one_nil (w : World) : (binOp .eql 99 .nilFunc .nilFunc).run Tryz.prog w = .ok (.bool true) w := by kernel_rfl

theorem one1_enters : ∀ args w, (callFunc 186 args).run Tryz.prog w = .ok (.enter 186 args) w := enters_of Tryz.func186 (by kernel_rfl) rfl

theorem all1_enters : ∀ args w, (callFunc 184 args).run Tryz.prog w = .ok (.enter 184 args) w := enters_of Tryz.func184 (by kernel_rfl) rfl

theorem mix1_enters : ∀ args w, (callFunc 151 args).run Tryz.prog w = .ok (.enter 151 args) w := enters_of Tryz.func151 (by kernel_rfl) rfl

theorem clamp1_enters : ∀ args w, (callFunc 155 args).run Tryz.prog w = .ok (.enter 155 args) w := enters_of Tryz.func155 (by kernel_rfl) rfl

set_option maxHeartbeats 1000000 in
theorem one_any (op n : Int) (a : Nat → Int) (w : World) (h0 : 0 ≤ op) (h5 : op ≤ 4) (h1 : 1 ≤ n) (h4 : n ≤ 4) (Ia : ∀ i, I32 (a i)) :
    Calls Tryz.prog 165 #[.int .i64 op, .int .i64 n, .agg #[.int .i32 (a 0), .int .i32 (a 1), .int .i32 (a 2), .int .i32 (a 3)]] w fun e w' => e = .returned (.tuple #[.agg #[.int .i32 (cut n (fun i => oneI op (a i)) 0), .int .i32 (cut n (fun i => oneI op (a i)) 1), .int .i32 (cut n (fun i => oneI op (a i)) 2), .int .i32 (cut n (fun i => oneI op (a i)) 3)], .int .i64 0]) ∧ Ext w w' := by
  have HI := hide Ia
  clear Ia
  have hq := eql_one
  go_enter Tryz.func165, Tryz.ntmps165
  go_wp2_with fail
  refine (ofOne_any _ _ h0 h5).mono ?_
  rintro e w1 ⟨rfl, rfl⟩
  go_wp2_with fail
  refine (each_any n 186 _ (fun i => oneI op (a i)) _ h1 h4 one1_enters (by
    intro i W hi _ hx
    exact one1_any i hi (oneF op) (oneI op) a _ _ W (oneF_enters op h0 h5) (fun x W hx => oneF_does op h0 h5 x W hx) (((Blk.at (by simp)).ext hx).cell rfl) ((((Blk.at rfl).alloc _).alloc _).ext hx) (unhide HI))).mono ?_
  rintro e w1 ⟨rfl, hx⟩
  have R := hide (And.intro (((Blk.at (b := w.heap.size + 1) (by simp)).alloc _).ext hx) ((((((Ext.refl w).alloc _).alloc _).alloc _)).trans hx))
  clear hx
  obtain ⟨r0, r1, r2, r3⟩ := Blk.vec4 (a := nul) (unhide R).1
  obtain ⟨f0, f1, f2, f3⟩ := (unhide R).1.free4
  go_wp2
  obtain ⟨q0, q1, q2, q3⟩ := lay4 (a := nul) (unhide R).1 (.int .i32 (cut n (fun i => oneI op (a i)) 0)) (.int .i32 (cut n (fun i => oneI op (a i)) 1)) (.int .i32 (cut n (fun i => oneI op (a i)) 2)) (.int .i32 (cut n (fun i => oneI op (a i)) 3))
  refine bodyPost_ret (v := .tuple #[.agg #[.int .i32 (cut n (fun i => oneI op (a i)) 0), .int .i32 (cut n (fun i => oneI op (a i)) 1), .int .i32 (cut n (fun i => oneI op (a i)) 2), .int .i32 (cut n (fun i => oneI op (a i)) 3)], .int .i64 0]) (by simp [results, Tryz.results165, go_sem, q0, q1, q2, q3]) rfl ⟨rfl, ?_⟩
  exact ext_set4 (unhide R).2 (by omega)

theorem one_bad (op n : Int) (a : Nat → Int) (w : World) (h : op < 0 ∨ 4 < op) :
    Calls Tryz.prog 165 #[.int .i64 op, .int .i64 n, .agg #[.int .i32 (a 0), .int .i32 (a 1), .int .i32 (a 2), .int .i32 (a 3)]] w fun e w' => e = .returned (.tuple #[.agg #[.int .i32 0, .int .i32 0, .int .i32 0, .int .i32 0], .int .i64 2]) ∧ Ext w w' := by
  have hq := eql_one_nil
  go_enter Tryz.func165, Tryz.ntmps165
  go_wp2_with fail
  refine (ofOne_bad _ _ h).mono ?_
  rintro e w1 ⟨rfl, rfl⟩
  go_wp2
  refine bodyPost_ret (v := .tuple #[.agg #[.int .i32 0, .int .i32 0, .int .i32 0, .int .i32 0], .int .i64 2]) (by simp [results, Tryz.results165, go_sem]) rfl ⟨rfl, ?_⟩
  exact (((((Ext.refl w).alloc _).alloc _).alloc _))

theorem one_off (op n : Int) (a : Nat → Int) (w : World) (h0 : 0 ≤ op) (h5 : op ≤ 4) (h : n < 1 ∨ 4 < n) :
    Calls Tryz.prog 165 #[.int .i64 op, .int .i64 n, .agg #[.int .i32 (a 0), .int .i32 (a 1), .int .i32 (a 2), .int .i32 (a 3)]] w fun e w' => e = .returned (.tuple #[.agg #[.int .i32 0, .int .i32 0, .int .i32 0, .int .i32 0], .int .i64 2]) ∧ Ext w w' := by
  have hq := eql_one
  go_enter Tryz.func165, Tryz.ntmps165
  go_wp2_with fail
  refine (ofOne_any _ _ h0 h5).mono ?_
  rintro e w1 ⟨rfl, rfl⟩
  go_wp2_with fail
  refine (each_bad _ _ _ h).mono ?_
  rintro e w1 ⟨rfl, hx⟩
  have R := hide (And.intro (((Blk.at (b := w.heap.size + 1) (by simp)).alloc _).ext hx) ((((((Ext.refl w).alloc _).alloc _).alloc _)).trans hx))
  clear hx
  obtain ⟨r0, r1, r2, r3⟩ := Blk.vec4 (a := nul) (unhide R).1
  obtain ⟨f0, f1, f2, f3⟩ := (unhide R).1.free4
  go_wp2
  obtain ⟨q0, q1, q2, q3⟩ := lay4 (a := nul) (unhide R).1 (.int .i32 0) (.int .i32 0) (.int .i32 0) (.int .i32 0)
  refine bodyPost_ret (v := .tuple #[.agg #[.int .i32 0, .int .i32 0, .int .i32 0, .int .i32 0], .int .i64 2]) (by simp [results, Tryz.results165, go_sem, q0, q1, q2, q3]) rfl ⟨rfl, ?_⟩
  exact ext_set4 (unhide R).2 (by omega)

set_option maxHeartbeats 1000000 in
theorem all_any (n x : Int) (w : World) (h1 : 1 ≤ n) (h4 : n ≤ 4) :
    Calls Tryz.prog 162 #[.int .i64 n, .int .i32 x] w fun e w' => e = .returned (.tuple #[.agg #[.int .i32 (cut n (fun _ => x) 0), .int .i32 (cut n (fun _ => x) 1), .int .i32 (cut n (fun _ => x) 2), .int .i32 (cut n (fun _ => x) 3)], .int .i64 0]) ∧ Ext w w' := by
  go_enter Tryz.func162, Tryz.ntmps162
  go_wp2_with fail
  refine (each_any n 184 _ (fun _ => x) _ h1 h4 all1_enters (by
    intro i W hi _ hx
    exact all1_any i x _ W ((((Blk.at rfl).alloc _).ext hx).cell rfl))).mono ?_
  rintro e w1 ⟨rfl, hx⟩
  have R := hide (And.intro ((Blk.at (b := w.heap.size + 1) (by simp)).ext hx) (((((Ext.refl w).alloc _).alloc _)).trans hx))
  clear hx
  obtain ⟨r0, r1, r2, r3⟩ := Blk.vec4 (a := nul) (unhide R).1
  obtain ⟨f0, f1, f2, f3⟩ := (unhide R).1.free4
  go_wp2
  obtain ⟨q0, q1, q2, q3⟩ := lay4 (a := nul) (unhide R).1 (.int .i32 (cut n (fun _ => x) 0)) (.int .i32 (cut n (fun _ => x) 1)) (.int .i32 (cut n (fun _ => x) 2)) (.int .i32 (cut n (fun _ => x) 3))
  refine bodyPost_ret (v := .tuple #[.agg #[.int .i32 (cut n (fun _ => x) 0), .int .i32 (cut n (fun _ => x) 1), .int .i32 (cut n (fun _ => x) 2), .int .i32 (cut n (fun _ => x) 3)], .int .i64 0]) (by simp [results, Tryz.results162, go_sem, q0, q1, q2, q3]) rfl ⟨rfl, ?_⟩
  exact ext_set4 (unhide R).2 (by omega)

theorem all_off (n x : Int) (w : World) (h : n < 1 ∨ 4 < n) :
    Calls Tryz.prog 162 #[.int .i64 n, .int .i32 x] w fun e w' => e = .returned (.tuple #[.agg #[.int .i32 0, .int .i32 0, .int .i32 0, .int .i32 0], .int .i64 2]) ∧ Ext w w' := by
  go_enter Tryz.func162, Tryz.ntmps162
  go_wp2_with fail
  refine (each_bad _ _ _ h).mono ?_
  rintro e w1 ⟨rfl, hx⟩
  have R := hide (And.intro ((Blk.at (b := w.heap.size + 1) (by simp)).ext hx) (((((Ext.refl w).alloc _).alloc _)).trans hx))
  clear hx
  obtain ⟨r0, r1, r2, r3⟩ := Blk.vec4 (a := nul) (unhide R).1
  obtain ⟨f0, f1, f2, f3⟩ := (unhide R).1.free4
  go_wp2
  obtain ⟨q0, q1, q2, q3⟩ := lay4 (a := nul) (unhide R).1 (.int .i32 0) (.int .i32 0) (.int .i32 0) (.int .i32 0)
  refine bodyPost_ret (v := .tuple #[.agg #[.int .i32 0, .int .i32 0, .int .i32 0, .int .i32 0], .int .i64 2]) (by simp [results, Tryz.results162, go_sem, q0, q1, q2, q3]) rfl ⟨rfl, ?_⟩
  exact ext_set4 (unhide R).2 (by omega)

set_option maxHeartbeats 1000000 in
theorem mixV_any (n : Int) (a b t : Nat → Int) (w : World) (h1 : 1 ≤ n) (h4 : n ≤ 4) (Ia : ∀ i, I32 (a i)) (Ib : ∀ i, I32 (b i)) (It : ∀ i, I32 (t i)) :
    Calls Tryz.prog 116 #[.int .i64 n, .agg #[.int .i32 (a 0), .int .i32 (a 1), .int .i32 (a 2), .int .i32 (a 3)], .agg #[.int .i32 (b 0), .int .i32 (b 1), .int .i32 (b 2), .int .i32 (b 3)], .agg #[.int .i32 (t 0), .int .i32 (t 1), .int .i32 (t 2), .int .i32 (t 3)]] w fun e w' => e = .returned (.tuple #[.agg #[.int .i32 (cut n (fun i => addI (a i) (mulI (subI (b i) (a i)) (t i))) 0), .int .i32 (cut n (fun i => addI (a i) (mulI (subI (b i) (a i)) (t i))) 1), .int .i32 (cut n (fun i => addI (a i) (mulI (subI (b i) (a i)) (t i))) 2), .int .i32 (cut n (fun i => addI (a i) (mulI (subI (b i) (a i)) (t i))) 3)], .int .i64 0]) ∧ Ext w w' := by
  have HI := hide (And.intro Ia (And.intro Ib It))
  clear Ia Ib It
  go_enter Tryz.func116, Tryz.ntmps116
  go_wp2_with fail
  refine (each_any n 151 _ (fun i => addI (a i) (mulI (subI (b i) (a i)) (t i))) _ h1 h4 mix1_enters (by
    intro i W hi _ hx
    exact mix1_any i hi a b t _ _ _ W (((((Blk.at rfl).alloc _).alloc _).alloc _).ext hx) ((((Blk.at (by simp)).alloc _).alloc _).ext hx) (((Blk.at (by simp)).alloc _).ext hx) (unhide HI).1 (unhide HI).2.1 (unhide HI).2.2)).mono ?_
  rintro e w1 ⟨rfl, hx⟩
  have R := hide (And.intro ((Blk.at (b := w.heap.size + 1 + 1 + 1) (by simp)).ext hx) (((((((Ext.refl w).alloc _).alloc _).alloc _).alloc _)).trans hx))
  clear hx
  obtain ⟨r0, r1, r2, r3⟩ := Blk.vec4 (a := nul) (unhide R).1
  obtain ⟨f0, f1, f2, f3⟩ := (unhide R).1.free4
  go_wp2
  obtain ⟨q0, q1, q2, q3⟩ := lay4 (a := nul) (unhide R).1 (.int .i32 (cut n (fun i => addI (a i) (mulI (subI (b i) (a i)) (t i))) 0)) (.int .i32 (cut n (fun i => addI (a i) (mulI (subI (b i) (a i)) (t i))) 1)) (.int .i32 (cut n (fun i => addI (a i) (mulI (subI (b i) (a i)) (t i))) 2)) (.int .i32 (cut n (fun i => addI (a i) (mulI (subI (b i) (a i)) (t i))) 3))
  refine bodyPost_ret (v := .tuple #[.agg #[.int .i32 (cut n (fun i => addI (a i) (mulI (subI (b i) (a i)) (t i))) 0), .int .i32 (cut n (fun i => addI (a i) (mulI (subI (b i) (a i)) (t i))) 1), .int .i32 (cut n (fun i => addI (a i) (mulI (subI (b i) (a i)) (t i))) 2), .int .i32 (cut n (fun i => addI (a i) (mulI (subI (b i) (a i)) (t i))) 3)], .int .i64 0]) (by simp [results, Tryz.results116, go_sem, q0, q1, q2, q3]) rfl ⟨rfl, ?_⟩
  exact ext_set4 (unhide R).2 (by omega)

theorem mixV_off (n : Int) (a b t : Nat → Int) (w : World) (h : n < 1 ∨ 4 < n) :
    Calls Tryz.prog 116 #[.int .i64 n, .agg #[.int .i32 (a 0), .int .i32 (a 1), .int .i32 (a 2), .int .i32 (a 3)], .agg #[.int .i32 (b 0), .int .i32 (b 1), .int .i32 (b 2), .int .i32 (b 3)], .agg #[.int .i32 (t 0), .int .i32 (t 1), .int .i32 (t 2), .int .i32 (t 3)]] w fun e w' => e = .returned (.tuple #[.agg #[.int .i32 0, .int .i32 0, .int .i32 0, .int .i32 0], .int .i64 2]) ∧ Ext w w' := by
  go_enter Tryz.func116, Tryz.ntmps116
  go_wp2_with fail
  refine (each_bad _ _ _ h).mono ?_
  rintro e w1 ⟨rfl, hx⟩
  have R := hide (And.intro ((Blk.at (b := w.heap.size + 1 + 1 + 1) (by simp)).ext hx) (((((((Ext.refl w).alloc _).alloc _).alloc _).alloc _)).trans hx))
  clear hx
  obtain ⟨r0, r1, r2, r3⟩ := Blk.vec4 (a := nul) (unhide R).1
  obtain ⟨f0, f1, f2, f3⟩ := (unhide R).1.free4
  go_wp2
  obtain ⟨q0, q1, q2, q3⟩ := lay4 (a := nul) (unhide R).1 (.int .i32 0) (.int .i32 0) (.int .i32 0) (.int .i32 0)
  refine bodyPost_ret (v := .tuple #[.agg #[.int .i32 0, .int .i32 0, .int .i32 0, .int .i32 0], .int .i64 2]) (by simp [results, Tryz.results116, go_sem, q0, q1, q2, q3]) rfl ⟨rfl, ?_⟩
  exact ext_set4 (unhide R).2 (by omega)

set_option maxHeartbeats 1000000 in
theorem clampV_any (n : Int) (a b t : Nat → Int) (w : World) (h1 : 1 ≤ n) (h4 : n ≤ 4) :
    Calls Tryz.prog 117 #[.int .i64 n, .agg #[.int .i32 (a 0), .int .i32 (a 1), .int .i32 (a 2), .int .i32 (a 3)], .agg #[.int .i32 (b 0), .int .i32 (b 1), .int .i32 (b 2), .int .i32 (b 3)], .agg #[.int .i32 (t 0), .int .i32 (t 1), .int .i32 (t 2), .int .i32 (t 3)]] w fun e w' => e = .returned (.tuple #[.agg #[.int .i32 (cut n (fun i => clampI (a i) (b i) (t i)) 0), .int .i32 (cut n (fun i => clampI (a i) (b i) (t i)) 1), .int .i32 (cut n (fun i => clampI (a i) (b i) (t i)) 2), .int .i32 (cut n (fun i => clampI (a i) (b i) (t i)) 3)], .int .i64 0]) ∧ Ext w w' := by
  go_enter Tryz.func117, Tryz.ntmps117
  go_wp2_with fail
  refine (each_any n 155 _ (fun i => clampI (a i) (b i) (t i)) _ h1 h4 clamp1_enters (by
    intro i W hi _ hx
    exact clamp1_any i hi a b t _ _ _ W (((((Blk.at rfl).alloc _).alloc _).alloc _).ext hx) ((((Blk.at (by simp)).alloc _).alloc _).ext hx) (((Blk.at (by simp)).alloc _).ext hx))).mono ?_
  rintro e w1 ⟨rfl, hx⟩
  have R := hide (And.intro ((Blk.at (b := w.heap.size + 1 + 1 + 1) (by simp)).ext hx) (((((((Ext.refl w).alloc _).alloc _).alloc _).alloc _)).trans hx))
  clear hx
  obtain ⟨r0, r1, r2, r3⟩ := Blk.vec4 (a := nul) (unhide R).1
  obtain ⟨f0, f1, f2, f3⟩ := (unhide R).1.free4
  go_wp2
  obtain ⟨q0, q1, q2, q3⟩ := lay4 (a := nul) (unhide R).1 (.int .i32 (cut n (fun i => clampI (a i) (b i) (t i)) 0)) (.int .i32 (cut n (fun i => clampI (a i) (b i) (t i)) 1)) (.int .i32 (cut n (fun i => clampI (a i) (b i) (t i)) 2)) (.int .i32 (cut n (fun i => clampI (a i) (b i) (t i)) 3))
  refine bodyPost_ret (v := .tuple #[.agg #[.int .i32 (cut n (fun i => clampI (a i) (b i) (t i)) 0), .int .i32 (cut n (fun i => clampI (a i) (b i) (t i)) 1), .int .i32 (cut n (fun i => clampI (a i) (b i) (t i)) 2), .int .i32 (cut n (fun i => clampI (a i) (b i) (t i)) 3)], .int .i64 0]) (by simp [results, Tryz.results117, go_sem, q0, q1, q2, q3]) rfl ⟨rfl, ?_⟩
  exact ext_set4 (unhide R).2 (by omega)

theorem clampV_off (n : Int) (a b t : Nat → Int) (w : World) (h : n < 1 ∨ 4 < n) :
    Calls Tryz.prog 117 #[.int .i64 n, .agg #[.int .i32 (a 0), .int .i32 (a 1), .int .i32 (a 2), .int .i32 (a 3)], .agg #[.int .i32 (b 0), .int .i32 (b 1), .int .i32 (b 2), .int .i32 (b 3)], .agg #[.int .i32 (t 0), .int .i32 (t 1), .int .i32 (t 2), .int .i32 (t 3)]] w fun e w' => e = .returned (.tuple #[.agg #[.int .i32 0, .int .i32 0, .int .i32 0, .int .i32 0], .int .i64 2]) ∧ Ext w w' := by
  go_enter Tryz.func117, Tryz.ntmps117
  go_wp2_with fail
  refine (each_bad _ _ _ h).mono ?_
  rintro e w1 ⟨rfl, hx⟩
  have R := hide (And.intro ((Blk.at (b := w.heap.size + 1 + 1 + 1) (by simp)).ext hx) (((((((Ext.refl w).alloc _).alloc _).alloc _).alloc _)).trans hx))
  clear hx
  obtain ⟨r0, r1, r2, r3⟩ := Blk.vec4 (a := nul) (unhide R).1
  obtain ⟨f0, f1, f2, f3⟩ := (unhide R).1.free4
  go_wp2
  obtain ⟨q0, q1, q2, q3⟩ := lay4 (a := nul) (unhide R).1 (.int .i32 0) (.int .i32 0) (.int .i32 0) (.int .i32 0)
  refine bodyPost_ret (v := .tuple #[.agg #[.int .i32 0, .int .i32 0, .int .i32 0, .int .i32 0], .int .i64 2]) (by simp [results, Tryz.results117, go_sem, q0, q1, q2, q3]) rfl ⟨rfl, ?_⟩
  exact ext_set4 (unhide R).2 (by omega)

end Go.Proofs.YtgmahpkhdnabjaaGreat
