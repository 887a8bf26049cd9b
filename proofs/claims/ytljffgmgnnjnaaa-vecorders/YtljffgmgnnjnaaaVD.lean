/-
  Vectors: One, All, Mix, Clamp. What the dump lacks is left out.
-/
import Derived.Test.YtljffgmgnnjnaaaVC
namespace Go.Proofs.Ytljffgmgnnjnaaa
open Go.RowKit
set_option linter.unusedVariables false

theorem one1_any (i : Nat) (hi : i < 4) (g : FuncId) (F : Int → Int) (a : Nat → Int) (bd ba : Nat) (w : World)
    (eg : ∀ args w, (callFunc g args).run Try.prog w = .ok (.enter g args) w)
    (hF : ∀ x W, I32 x → Calls Try.prog g #[.int .i32 x] W fun e w' => e = .returned (.int .i32 (F x)) ∧ w' = W)
    (hd : w.cell? ⟨bd, 0, none⟩ = some (.func (.func g) #[] #[])) (ha : Blk w ba #[.int .i32 (a 0), .int .i32 (a 1), .int .i32 (a 2), .int .i32 (a 3)] 24) (Ia : ∀ i, I32 (a i)) :
    Calls Try.prog 16 #[.int .i64 i, .pointer (some ⟨bd, 0, none⟩), .pointer (some ⟨ba, 0, none⟩)] w fun e w' => e = .returned (.int .i32 (F (a i))) ∧ Ext w w' := by
  have ca := ha.vec i hi
  have hi4 : (i : Int) < 4 := by omega
  have HF := hide hF
  have HI := hide (Ia i)
  clear hF Ia ha
  go_enter Try.func16, Try.ntmps16
  go_wp2
  go_quiet (first | (go_at_fn g; refine Calls.quiet_of_same (unhide HF _ _ (unhide HI))))
  go_wp2
  go_ret
  exact ⟨rfl, (Ext.refl w).drewN _⟩

theorem clamp1_any (i : Nat) (hi : i < 4) (a b t : Nat → Int) (ba bb bt : Nat) (w : World) (ha : Blk w ba #[.int .i32 (a 0), .int .i32 (a 1), .int .i32 (a 2), .int .i32 (a 3)] 24) (hb : Blk w bb #[.int .i32 (b 0), .int .i32 (b 1), .int .i32 (b 2), .int .i32 (b 3)] 24) (ht : Blk w bt #[.int .i32 (t 0), .int .i32 (t 1), .int .i32 (t 2), .int .i32 (t 3)] 24) :
    Calls Try.prog 13 #[.int .i64 i, .pointer (some ⟨ba, 0, none⟩), .pointer (some ⟨bb, 0, none⟩), .pointer (some ⟨bt, 0, none⟩)] w fun e w' => e = .returned (.int .i32 (clampI (a i) (b i) (t i))) ∧ Ext w w' := by
  have ca := ha.vec i hi
  have cb := hb.vec i hi
  have ct := ht.vec i hi
  have hi4 : (i : Int) < 4 := by omega
  clear ha hb ht
  go_enter Try.func13, Try.ntmps13
  go_wp2
  go_quiet (first | (go_at_call 14; refine Calls.quiet_of_same (clamp_any _ _ _ _)))
  go_wp2
  go_ret
  exact ⟨rfl, (Ext.refl w).drewN _⟩

/-- What the operation number op of one does with a number. -/
def oneI (op : Int) (a : Int) : Int :=
  if op = 0 then negI a else if op = 1 then absI a else if op = 2 then signI a else if op = 3 then floorI a else fractI a

-- for 7
def oneF (op : Int) : FuncId :=
  if op = 0 then 26 else if op = 1 then 27 else if op = 2 then 28 else if op = 3 then 29 else 30

theorem op1_cases {op : Int} (h0 : 0 ≤ op) (h4 : op ≤ 4) : op = 0 ∨ op = 1 ∨ op = 2 ∨ op = 3 ∨ op = 4 := by omega

theorem ofOne_any (op : Int) (w : World) (h0 : 0 ≤ op) (h4 : op ≤ 4) :
    Calls Try.prog 15 #[.int .i64 op] w fun e w' => e = .returned (.func (.func (oneF op)) #[] #[]) ∧ w' = w := by
  rcases op1_cases h0 h4 with rfl | rfl | rfl | rfl | rfl
  all_goals go_enter Try.func15, Try.ntmps15
  all_goals go_wp2
  all_goals go_ret
  all_goals exact ⟨rfl, rfl⟩

theorem ofOne_bad (op : Int) (w : World) (h : op < 0 ∨ 4 < op) :
    Calls Try.prog 15 #[.int .i64 op] w fun e w' => e = .returned .nilFunc ∧ w' = w := by
  have d0 : (op == 0) = false := by simp; omega
  have d1 : (op == 1) = false := by simp; omega
  have d2 : (op == 2) = false := by simp; omega
  have d3 : (op == 3) = false := by simp; omega
  have d4 : (op == 4) = false := by simp; omega
  go_enter Try.func15, Try.ntmps15
  go_wp2
  go_ret
  exact ⟨rfl, rfl⟩

-- for 7
theorem oneF_enters (op : Int) (h0 : 0 ≤ op) (h4 : op ≤ 4) : ∀ args w, (callFunc (oneF op) args).run Try.prog w = .ok (.enter (oneF op) args) w := by
  rcases op1_cases h0 h4 with rfl | rfl | rfl | rfl | rfl
  · exact enters_of Try.func26 (by kernel_rfl) rfl
  · exact enters_of Try.func27 (by kernel_rfl) rfl
  · exact enters_of Try.func28 (by kernel_rfl) rfl
  · exact enters_of Try.func29 (by kernel_rfl) rfl
  · exact enters_of Try.func30 (by kernel_rfl) rfl

-- for 7
theorem oneF_does (op : Int) (h0 : 0 ≤ op) (h4 : op ≤ 4) (x : Int) (w : World) (hx : I32 x) :
    Calls Try.prog (oneF op) #[.int .i32 x] w fun e w' => e = .returned (.int .i32 (oneI op x)) ∧ w' = w := by
  rcases op1_cases h0 h4 with rfl | rfl | rfl | rfl | rfl
  · exact neg_any x w hx
  · exact abs_any x w hx
  · exact sign_any x w
  · exact floor_any x w hx
  · exact fract_any x w hx

theorem eql_one (w : World) (g : FuncId) : (binOp .eql 41 (.func (.func g) #[] #[]) .nilFunc).run Try.prog w = .ok (.bool false) w := by kernel_rfl

theorem eql_one_nil (w : World) : (binOp .eql 41 .nilFunc .nilFunc).run Try.prog w = .ok (.bool true) w := by kernel_rfl

theorem one1_enters : ∀ args w, (callFunc 16 args).run Try.prog w = .ok (.enter 16 args) w := enters_of Try.func16 (by kernel_rfl) rfl

theorem clamp1_enters : ∀ args w, (callFunc 13 args).run Try.prog w = .ok (.enter 13 args) w := enters_of Try.func13 (by kernel_rfl) rfl

set_option maxHeartbeats 1000000 in
theorem one_any (op n : Int) (a : Nat → Int) (w : World) (h0 : 0 ≤ op) (h5 : op ≤ 4) (h1 : 1 ≤ n) (h4 : n ≤ 4) (Ia : ∀ i, I32 (a i)) :
    Calls Try.prog 7 #[.int .i64 op, .int .i64 n, .agg #[.int .i32 (a 0), .int .i32 (a 1), .int .i32 (a 2), .int .i32 (a 3)]] w fun e w' => e = .returned (.tuple #[.agg #[.int .i32 (cut n (fun i => oneI op (a i)) 0), .int .i32 (cut n (fun i => oneI op (a i)) 1), .int .i32 (cut n (fun i => oneI op (a i)) 2), .int .i32 (cut n (fun i => oneI op (a i)) 3)], .int .i64 0]) ∧ Ext w w' := by
  have HI := hide Ia
  clear Ia
  have hq := eql_one
  go_enter Try.func7, Try.ntmps7
  go_wp2_with fail
  refine (ofOne_any _ _ h0 h5).mono ?_
  rintro e w1 ⟨rfl, rfl⟩
  go_wp2_with fail
  refine (each_any n 16 _ (fun i => oneI op (a i)) _ h1 h4 one1_enters (by
    intro i W hi _ hx
    exact one1_any i hi (oneF op) (oneI op) a _ _ W (oneF_enters op h0 h5) (fun x W hx => oneF_does op h0 h5 x W hx) (((Blk.at (by simp)).ext hx).cell rfl) ((((Blk.at rfl).alloc _).alloc _).ext hx) (unhide HI))).mono ?_
  rintro e w1 ⟨rfl, hx⟩
  have R := hide (And.intro (((Blk.at (b := w.heap.size + 1) (by simp)).alloc _).ext hx) ((((((Ext.refl w).alloc _).alloc _).alloc _)).trans hx))
  clear hx
  obtain ⟨r0, r1, r2, r3⟩ := Blk.vec4 (a := nul) (unhide R).1
  obtain ⟨f0, f1, f2, f3⟩ := (unhide R).1.free4
  go_wp2
  obtain ⟨q0, q1, q2, q3⟩ := lay4 (a := nul) (unhide R).1 (.int .i32 (cut n (fun i => oneI op (a i)) 0)) (.int .i32 (cut n (fun i => oneI op (a i)) 1)) (.int .i32 (cut n (fun i => oneI op (a i)) 2)) (.int .i32 (cut n (fun i => oneI op (a i)) 3))
  refine bodyPost_ret (v := .tuple #[.agg #[.int .i32 (cut n (fun i => oneI op (a i)) 0), .int .i32 (cut n (fun i => oneI op (a i)) 1), .int .i32 (cut n (fun i => oneI op (a i)) 2), .int .i32 (cut n (fun i => oneI op (a i)) 3)], .int .i64 0]) (by simp [results, Try.results7, go_sem, q0, q1, q2, q3]) rfl ⟨rfl, ?_⟩
  exact ext_set4 (unhide R).2 (by omega)

theorem one_bad (op n : Int) (a : Nat → Int) (w : World) (h : op < 0 ∨ 4 < op) :
    Calls Try.prog 7 #[.int .i64 op, .int .i64 n, .agg #[.int .i32 (a 0), .int .i32 (a 1), .int .i32 (a 2), .int .i32 (a 3)]] w fun e w' => e = .returned (.tuple #[.agg #[.int .i32 0, .int .i32 0, .int .i32 0, .int .i32 0], .int .i64 2]) ∧ Ext w w' := by
  have hq := eql_one_nil
  go_enter Try.func7, Try.ntmps7
  go_wp2_with fail
  refine (ofOne_bad _ _ h).mono ?_
  rintro e w1 ⟨rfl, rfl⟩
  go_wp2
  refine bodyPost_ret (v := .tuple #[.agg #[.int .i32 0, .int .i32 0, .int .i32 0, .int .i32 0], .int .i64 2]) (by simp [results, Try.results7, go_sem]) rfl ⟨rfl, ?_⟩
  exact (((((Ext.refl w).alloc _).alloc _).alloc _))

theorem one_off (op n : Int) (a : Nat → Int) (w : World) (h0 : 0 ≤ op) (h5 : op ≤ 4) (h : n < 1 ∨ 4 < n) :
    Calls Try.prog 7 #[.int .i64 op, .int .i64 n, .agg #[.int .i32 (a 0), .int .i32 (a 1), .int .i32 (a 2), .int .i32 (a 3)]] w fun e w' => e = .returned (.tuple #[.agg #[.int .i32 0, .int .i32 0, .int .i32 0, .int .i32 0], .int .i64 2]) ∧ Ext w w' := by
  have hq := eql_one
  go_enter Try.func7, Try.ntmps7
  go_wp2_with fail
  refine (ofOne_any _ _ h0 h5).mono ?_
  rintro e w1 ⟨rfl, rfl⟩
  go_wp2_with fail
  refine (each_bad _ _ _ h).mono ?_
  rintro e w1 ⟨rfl, hx⟩
  have R := hide (And.intro (((Blk.at (b := w.heap.size + 1) (by simp)).alloc _).ext hx) ((((((Ext.refl w).alloc _).alloc _).alloc _)).trans hx))
  clear hx
  obtain ⟨r0, r1, r2, r3⟩ := Blk.vec4 (a := nul) (unhide R).1
  obtain ⟨f0, f1, f2, f3⟩ := (unhide R).1.free4
  go_wp2
  obtain ⟨q0, q1, q2, q3⟩ := lay4 (a := nul) (unhide R).1 (.int .i32 0) (.int .i32 0) (.int .i32 0) (.int .i32 0)
  refine bodyPost_ret (v := .tuple #[.agg #[.int .i32 0, .int .i32 0, .int .i32 0, .int .i32 0], .int .i64 2]) (by simp [results, Try.results7, go_sem, q0, q1, q2, q3]) rfl ⟨rfl, ?_⟩
  exact ext_set4 (unhide R).2 (by omega)

set_option maxHeartbeats 1000000 in
theorem clampV_any (n : Int) (a b t : Nat → Int) (w : World) (h1 : 1 ≤ n) (h4 : n ≤ 4) :
    Calls Try.prog 6 #[.int .i64 n, .agg #[.int .i32 (a 0), .int .i32 (a 1), .int .i32 (a 2), .int .i32 (a 3)], .agg #[.int .i32 (b 0), .int .i32 (b 1), .int .i32 (b 2), .int .i32 (b 3)], .agg #[.int .i32 (t 0), .int .i32 (t 1), .int .i32 (t 2), .int .i32 (t 3)]] w fun e w' => e = .returned (.tuple #[.agg #[.int .i32 (cut n (fun i => clampI (a i) (b i) (t i)) 0), .int .i32 (cut n (fun i => clampI (a i) (b i) (t i)) 1), .int .i32 (cut n (fun i => clampI (a i) (b i) (t i)) 2), .int .i32 (cut n (fun i => clampI (a i) (b i) (t i)) 3)], .int .i64 0]) ∧ Ext w w' := by
  go_enter Try.func6, Try.ntmps6
  go_wp2_with fail
  refine (each_any n 13 _ (fun i => clampI (a i) (b i) (t i)) _ h1 h4 clamp1_enters (by
    intro i W hi _ hx
    exact clamp1_any i hi a b t _ _ _ W (((((Blk.at rfl).alloc _).alloc _).alloc _).ext hx) ((((Blk.at (by simp)).alloc _).alloc _).ext hx) (((Blk.at (by simp)).alloc _).ext hx))).mono ?_
  rintro e w1 ⟨rfl, hx⟩
  have R := hide (And.intro ((Blk.at (b := w.heap.size + 1 + 1 + 1) (by simp)).ext hx) (((((((Ext.refl w).alloc _).alloc _).alloc _).alloc _)).trans hx))
  clear hx
  obtain ⟨r0, r1, r2, r3⟩ := Blk.vec4 (a := nul) (unhide R).1
  obtain ⟨f0, f1, f2, f3⟩ := (unhide R).1.free4
  go_wp2
  obtain ⟨q0, q1, q2, q3⟩ := lay4 (a := nul) (unhide R).1 (.int .i32 (cut n (fun i => clampI (a i) (b i) (t i)) 0)) (.int .i32 (cut n (fun i => clampI (a i) (b i) (t i)) 1)) (.int .i32 (cut n (fun i => clampI (a i) (b i) (t i)) 2)) (.int .i32 (cut n (fun i => clampI (a i) (b i) (t i)) 3))
  refine bodyPost_ret (v := .tuple #[.agg #[.int .i32 (cut n (fun i => clampI (a i) (b i) (t i)) 0), .int .i32 (cut n (fun i => clampI (a i) (b i) (t i)) 1), .int .i32 (cut n (fun i => clampI (a i) (b i) (t i)) 2), .int .i32 (cut n (fun i => clampI (a i) (b i) (t i)) 3)], .int .i64 0]) (by simp [results, Try.results6, go_sem, q0, q1, q2, q3]) rfl ⟨rfl, ?_⟩
  exact ext_set4 (unhide R).2 (by omega)

theorem clampV_off (n : Int) (a b t : Nat → Int) (w : World) (h : n < 1 ∨ 4 < n) :
    Calls Try.prog 6 #[.int .i64 n, .agg #[.int .i32 (a 0), .int .i32 (a 1), .int .i32 (a 2), .int .i32 (a 3)], .agg #[.int .i32 (b 0), .int .i32 (b 1), .int .i32 (b 2), .int .i32 (b 3)], .agg #[.int .i32 (t 0), .int .i32 (t 1), .int .i32 (t 2), .int .i32 (t 3)]] w fun e w' => e = .returned (.tuple #[.agg #[.int .i32 0, .int .i32 0, .int .i32 0, .int .i32 0], .int .i64 2]) ∧ Ext w w' := by
  go_enter Try.func6, Try.ntmps6
  go_wp2_with fail
  refine (each_bad _ _ _ h).mono ?_
  rintro e w1 ⟨rfl, hx⟩
  have R := hide (And.intro ((Blk.at (b := w.heap.size + 1 + 1 + 1) (by simp)).ext hx) (((((((Ext.refl w).alloc _).alloc _).alloc _).alloc _)).trans hx))
  clear hx
  obtain ⟨r0, r1, r2, r3⟩ := Blk.vec4 (a := nul) (unhide R).1
  obtain ⟨f0, f1, f2, f3⟩ := (unhide R).1.free4
  go_wp2
  obtain ⟨q0, q1, q2, q3⟩ := lay4 (a := nul) (unhide R).1 (.int .i32 0) (.int .i32 0) (.int .i32 0) (.int .i32 0)
  refine bodyPost_ret (v := .tuple #[.agg #[.int .i32 0, .int .i32 0, .int .i32 0, .int .i32 0], .int .i64 2]) (by simp [results, Try.results6, go_sem, q0, q1, q2, q3]) rfl ⟨rfl, ?_⟩
  exact ext_set4 (unhide R).2 (by omega)

end Go.Proofs.Ytljffgmgnnjnaaa
