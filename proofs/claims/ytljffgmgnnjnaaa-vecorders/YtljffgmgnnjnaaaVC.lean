/-
  Vectors: Two.
-/
import Derived.Test.YtljffgmgnnjnaaaVB
namespace Go.Proofs.Ytljffgmgnnjnaaa
open Go.RowKit
set_option linter.unusedVariables false

theorem two1_enters : ∀ args w, (callFunc 12 args).run Try.prog w = .ok (.enter 12 args) w := enters_of Try.func12 (by kernel_rfl) rfl

theorem eql_two (w : World) (g : FuncId) : (binOp .eql 33 (.func (.func g) #[] #[]) .nilFunc).run Try.prog w = .ok (.bool false) w := by kernel_rfl
theorem eql_two_nil (w : World) : (binOp .eql 33 .nilFunc .nilFunc).run Try.prog w = .ok (.bool true) w := by kernel_rfl

set_option maxHeartbeats 1000000 in
theorem two_any (op n : Int) (a b : Nat → Int) (w : World) (h0 : 0 ≤ op) (h7 : op ≤ 7) (h1 : 1 ≤ n) (h4 : n ≤ 4) (Ia : ∀ i, I32 (a i)) (Ib : ∀ i, I32 (b i)) :
    Calls Try.prog 5 #[.int .i64 op, .int .i64 n, .agg #[.int .i32 (a 0), .int .i32 (a 1), .int .i32 (a 2), .int .i32 (a 3)], .agg #[.int .i32 (b 0), .int .i32 (b 1), .int .i32 (b 2), .int .i32 (b 3)]] w fun e w' => e = .returned (.tuple #[.agg #[.int .i32 (cut n (fun i => twoI op (a i) (b i)) 0), .int .i32 (cut n (fun i => twoI op (a i) (b i)) 1), .int .i32 (cut n (fun i => twoI op (a i) (b i)) 2), .int .i32 (cut n (fun i => twoI op (a i) (b i)) 3)], .int .i64 0]) ∧ Ext w w' := by
  have HI := hide (And.intro Ia Ib)
  clear Ia Ib
  have hq := eql_two
  go_enter Try.func5, Try.ntmps5
  go_wp2_with fail
  refine (ofTwo_any _ _ h0 h7).mono ?_
  rintro e w1 ⟨rfl, rfl⟩
  go_wp2_with fail
  refine (each_any n 12 _ (fun i => twoI op (a i) (b i)) _ h1 h4 two1_enters (by
    intro i W hi _ hx
    exact two1_any i hi (twoF op) (twoI op) a b _ _ _ W (twoF_enters op h0 h7) (fun x y W hx hy => twoF_does op h0 h7 x y W hx hy) (((Blk.at (by simp)).ext hx).cell rfl) ((((Blk.at rfl).alloc _).alloc _).alloc _ |>.ext hx) ((((Blk.at (by simp)).alloc _).alloc _).ext hx) (unhide HI).1 (unhide HI).2)).mono ?_
  rintro e w1 ⟨rfl, hx⟩
  have R := hide (And.intro (((Blk.at (b := w.heap.size + 1 + 1) (by simp)).alloc _).ext hx) ((((((Ext.refl w).alloc _).alloc _).alloc _).alloc _).trans hx))
  clear hx
  obtain ⟨r0, r1, r2, r3⟩ := Blk.vec4 (a := nul) (unhide R).1
  obtain ⟨f0, f1, f2, f3⟩ := (unhide R).1.free4
  go_wp2
  obtain ⟨q0, q1, q2, q3⟩ := lay4 (a := nul) (unhide R).1 (.int .i32 (cut n (fun i => twoI op (a i) (b i)) 0)) (.int .i32 (cut n (fun i => twoI op (a i) (b i)) 1)) (.int .i32 (cut n (fun i => twoI op (a i) (b i)) 2)) (.int .i32 (cut n (fun i => twoI op (a i) (b i)) 3))
  refine bodyPost_ret (v := .tuple #[.agg #[.int .i32 (cut n (fun i => twoI op (a i) (b i)) 0), .int .i32 (cut n (fun i => twoI op (a i) (b i)) 1), .int .i32 (cut n (fun i => twoI op (a i) (b i)) 2), .int .i32 (cut n (fun i => twoI op (a i) (b i)) 3)], .int .i64 0]) (by simp [results, Try.results5, go_sem, q0, q1, q2, q3]) rfl ⟨rfl, ?_⟩
  exact ext_set4 (unhide R).2 (by omega)

theorem two_bad (op n : Int) (a b : Nat → Int) (w : World) (h : op < 0 ∨ 7 < op) :
    Calls Try.prog 5 #[.int .i64 op, .int .i64 n, .agg #[.int .i32 (a 0), .int .i32 (a 1), .int .i32 (a 2), .int .i32 (a 3)], .agg #[.int .i32 (b 0), .int .i32 (b 1), .int .i32 (b 2), .int .i32 (b 3)]] w fun e w' => e = .returned (.tuple #[.agg #[.int .i32 0, .int .i32 0, .int .i32 0, .int .i32 0], .int .i64 2]) ∧ Ext w w' := by
  have hq := eql_two_nil
  go_enter Try.func5, Try.ntmps5
  go_wp2_with fail
  refine (ofTwo_bad _ _ h).mono ?_
  rintro e w1 ⟨rfl, rfl⟩
  go_wp2
  refine bodyPost_ret (v := .tuple #[.agg #[.int .i32 0, .int .i32 0, .int .i32 0, .int .i32 0], .int .i64 2]) (by simp [results, Try.results5, go_sem]) rfl ⟨rfl, ?_⟩
  exact ((((Ext.refl w).alloc _).alloc _).alloc _).alloc _

theorem two_off (op n : Int) (a b : Nat → Int) (w : World) (h0 : 0 ≤ op) (h7 : op ≤ 7) (h : n < 1 ∨ 4 < n) :
    Calls Try.prog 5 #[.int .i64 op, .int .i64 n, .agg #[.int .i32 (a 0), .int .i32 (a 1), .int .i32 (a 2), .int .i32 (a 3)], .agg #[.int .i32 (b 0), .int .i32 (b 1), .int .i32 (b 2), .int .i32 (b 3)]] w fun e w' => e = .returned (.tuple #[.agg #[.int .i32 0, .int .i32 0, .int .i32 0, .int .i32 0], .int .i64 2]) ∧ Ext w w' := by
  have hq := eql_two
  go_enter Try.func5, Try.ntmps5
  go_wp2_with fail
  refine (ofTwo_any _ _ h0 h7).mono ?_
  rintro e w1 ⟨rfl, rfl⟩
  go_wp2_with fail
  refine (each_bad _ _ _ h).mono ?_
  rintro e w1 ⟨rfl, hx⟩
  have R := hide (And.intro (((Blk.at (b := w.heap.size + 1 + 1) (by simp)).alloc _).ext hx) ((((((Ext.refl w).alloc _).alloc _).alloc _).alloc _).trans hx))
  clear hx
  obtain ⟨r0, r1, r2, r3⟩ := Blk.vec4 (a := nul) (unhide R).1
  obtain ⟨f0, f1, f2, f3⟩ := (unhide R).1.free4
  go_wp2
  obtain ⟨q0, q1, q2, q3⟩ := lay4 (a := nul) (unhide R).1 (.int .i32 0) (.int .i32 0) (.int .i32 0) (.int .i32 0)
  refine bodyPost_ret (v := .tuple #[.agg #[.int .i32 0, .int .i32 0, .int .i32 0, .int .i32 0], .int .i64 2]) (by simp [results, Try.results5, go_sem, q0, q1, q2, q3]) rfl ⟨rfl, ?_⟩
  exact ext_set4 (unhide R).2 (by omega)
end Go.Proofs.Ytljffgmgnnjnaaa
