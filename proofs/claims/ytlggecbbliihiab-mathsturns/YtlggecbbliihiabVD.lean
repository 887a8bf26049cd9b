/-
  Vectors: One, All, Mix, Clamp. What the dump lacks is left out.
-/
import Derived.Test.YtlggecbbliihiabVC
namespace Go.Proofs.Ytlggecbbliihiab
open Go.RowKit
set_option linter.unusedVariables false

theorem all1_any (i : Nat) (x : Int) (ba : Nat) (w : World) (ha : w.cell? ⟨ba, 0, none⟩ = some (.int .i32 x)) :
    Calls Try.prog 36 #[.int .i64 i, .pointer (some ⟨ba, 0, none⟩)] w fun e w' => e = .returned (.int .i32 x) ∧ Ext w w' := by
  go_enter Try.func36, Try.ntmps36
  go_wp2
  go_ret
  exact ⟨rfl, Ext.refl w⟩

/-- What the operation number op of one does with a number. -/
def oneI (op : Int) (a : Int) : Int :=
  if op = 0 then negI a else if op = 1 then absI a else if op = 2 then signI a else if op = 3 then floorI a else fractI a

theorem op1_cases {op : Int} (h0 : 0 ≤ op) (h4 : op ≤ 4) : op = 0 ∨ op = 1 ∨ op = 2 ∨ op = 3 ∨ op = 4 := by omega

theorem eql_one (w : World) (g : FuncId) : (binOp .eql 25 (.func (.func g) #[] #[]) .nilFunc).run Try.prog w = .ok (.bool false) w := by kernel_rfl

theorem eql_one_nil (w : World) : (binOp .eql 25 .nilFunc .nilFunc).run Try.prog w = .ok (.bool true) w := by kernel_rfl

theorem all1_enters : ∀ args w, (callFunc 36 args).run Try.prog w = .ok (.enter 36 args) w := enters_of Try.func36 (by kernel_rfl) rfl

set_option maxHeartbeats 1000000 in
theorem all_any (n x : Int) (w : World) (h1 : 1 ≤ n) (h4 : n ≤ 4) :
    Calls Try.prog 25 #[.int .i64 n, .int .i32 x] w fun e w' => e = .returned (.tuple #[.agg #[.int .i32 (cut n (fun _ => x) 0), .int .i32 (cut n (fun _ => x) 1), .int .i32 (cut n (fun _ => x) 2), .int .i32 (cut n (fun _ => x) 3)], .int .i64 0]) ∧ Ext w w' := by
  go_enter Try.func25, Try.ntmps25
  go_wp2_with fail
  refine (each_any n 36 _ (fun _ => x) _ h1 h4 all1_enters (by
    intro i W hi _ hx
    exact all1_any i x _ W ((((Blk.at rfl).alloc _).ext hx).cell rfl))).mono ?_
  rintro e w1 ⟨rfl, hx⟩
  have R := hide (And.intro ((Blk.at (b := w.heap.size + 1) (by simp)).ext hx) (((((Ext.refl w).alloc _).alloc _)).trans hx))
  clear hx
  obtain ⟨r0, r1, r2, r3⟩ := Blk.vec4 (a := nul) (unhide R).1
  obtain ⟨f0, f1, f2, f3⟩ := (unhide R).1.free4
  go_wp2
  obtain ⟨q0, q1, q2, q3⟩ := lay4 (a := nul) (unhide R).1 (.int .i32 (cut n (fun _ => x) 0)) (.int .i32 (cut n (fun _ => x) 1)) (.int .i32 (cut n (fun _ => x) 2)) (.int .i32 (cut n (fun _ => x) 3))
  refine bodyPost_ret (v := .tuple #[.agg #[.int .i32 (cut n (fun _ => x) 0), .int .i32 (cut n (fun _ => x) 1), .int .i32 (cut n (fun _ => x) 2), .int .i32 (cut n (fun _ => x) 3)], .int .i64 0]) (by simp [results, Try.results25, go_sem, q0, q1, q2, q3]) rfl ⟨rfl, ?_⟩
  exact ext_set4 (unhide R).2 (by omega)

theorem all_off (n x : Int) (w : World) (h : n < 1 ∨ 4 < n) :
    Calls Try.prog 25 #[.int .i64 n, .int .i32 x] w fun e w' => e = .returned (.tuple #[.agg #[.int .i32 0, .int .i32 0, .int .i32 0, .int .i32 0], .int .i64 2]) ∧ Ext w w' := by
  go_enter Try.func25, Try.ntmps25
  go_wp2_with fail
  refine (each_bad _ _ _ h).mono ?_
  rintro e w1 ⟨rfl, hx⟩
  have R := hide (And.intro ((Blk.at (b := w.heap.size + 1) (by simp)).ext hx) (((((Ext.refl w).alloc _).alloc _)).trans hx))
  clear hx
  obtain ⟨r0, r1, r2, r3⟩ := Blk.vec4 (a := nul) (unhide R).1
  obtain ⟨f0, f1, f2, f3⟩ := (unhide R).1.free4
  go_wp2
  obtain ⟨q0, q1, q2, q3⟩ := lay4 (a := nul) (unhide R).1 (.int .i32 0) (.int .i32 0) (.int .i32 0) (.int .i32 0)
  refine bodyPost_ret (v := .tuple #[.agg #[.int .i32 0, .int .i32 0, .int .i32 0, .int .i32 0], .int .i64 2]) (by simp [results, Try.results25, go_sem, q0, q1, q2, q3]) rfl ⟨rfl, ?_⟩
  exact ext_set4 (unhide R).2 (by omega)

end Go.Proofs.Ytlggecbbliihiab
