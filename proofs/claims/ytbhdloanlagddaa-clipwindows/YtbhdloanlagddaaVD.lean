/-
  Vectors: One, All, Mix, Clamp. What the dump lacks is left out.
-/
import Derived.Test.YtbhdloanlagddaaVC
namespace Go.Proofs.Ytbhdloanlagddaa
open Go.RowKit
set_option linter.unusedVariables false

theorem mix1_any (i : Nat) (hi : i < 4) (a b t : Nat → Int) (ba bb bt : Nat) (w : World) (ha : Blk w ba #[.int .i32 (a 0), .int .i32 (a 1), .int .i32 (a 2), .int .i32 (a 3)] 26) (hb : Blk w bb #[.int .i32 (b 0), .int .i32 (b 1), .int .i32 (b 2), .int .i32 (b 3)] 26) (ht : Blk w bt #[.int .i32 (t 0), .int .i32 (t 1), .int .i32 (t 2), .int .i32 (t 3)] 26) (Ia : ∀ i, I32 (a i)) (Ib : ∀ i, I32 (b i)) (It : ∀ i, I32 (t i)) :
    Calls Try.prog 69 #[.int .i64 i, .pointer (some ⟨ba, 0, none⟩), .pointer (some ⟨bb, 0, none⟩), .pointer (some ⟨bt, 0, none⟩)] w fun e w' => e = .returned (.int .i32 (addI (a i) (mulI (subI (b i) (a i)) (t i)))) ∧ Ext w w' := by
  have ca := ha.vec i hi
  have cb := hb.vec i hi
  have ct := ht.vec i hi
  have hi4 : (i : Int) < 4 := by omega
  have HI := hide (And.intro (Ia i) (And.intro (Ib i) (It i)))
  clear Ia Ib It ha hb ht
  go_enter Try.func69, Try.ntmps69
  go_wp2
  go_quiet (first | (go_at_call 37; refine Calls.quiet_of_same (sub_any _ _ _ (unhide HI).2.1 (unhide HI).1)) | (go_at_call 49; refine Calls.quiet_of_same (mul_any _ _ _ (subI_i32 _ _) (unhide HI).2.2)) | (go_at_call 38; refine Calls.quiet_of_same (add_any _ _ _ (unhide HI).1 (mulI_i32 _ _))))
  go_wp2
  go_ret
  exact ⟨rfl, (Ext.refl w).drewN _⟩

/-- What the operation number op of one does with a number. -/
def oneI (op : Int) (a : Int) : Int :=
  if op = 0 then negI a else if op = 1 then absI a else if op = 2 then signI a else if op = 3 then floorI a else fractI a

theorem op1_cases {op : Int} (h0 : 0 ≤ op) (h4 : op ≤ 4) : op = 0 ∨ op = 1 ∨ op = 2 ∨ op = 3 ∨ op = 4 := by omega

theorem eql_one (w : World) (g : FuncId) : (binOp .eql 90 (.func (.func g) #[] #[]) .nilFunc).run Try.prog w = .ok (.bool false) w := by kernel_rfl

theorem eql_one_nil (w : World) : (binOp .eql 90 .nilFunc .nilFunc).run Try.prog w = .ok (.bool true) w := by kernel_rfl

theorem mix1_enters : ∀ args w, (callFunc 69 args).run Try.prog w = .ok (.enter 69 args) w := enters_of Try.func69 (by kernel_rfl) rfl

set_option maxHeartbeats 1000000 in
theorem mixV_any (n : Int) (a b t : Nat → Int) (w : World) (h1 : 1 ≤ n) (h4 : n ≤ 4) (Ia : ∀ i, I32 (a i)) (Ib : ∀ i, I32 (b i)) (It : ∀ i, I32 (t i)) :
    Calls Try.prog 65 #[.int .i64 n, .agg #[.int .i32 (a 0), .int .i32 (a 1), .int .i32 (a 2), .int .i32 (a 3)], .agg #[.int .i32 (b 0), .int .i32 (b 1), .int .i32 (b 2), .int .i32 (b 3)], .agg #[.int .i32 (t 0), .int .i32 (t 1), .int .i32 (t 2), .int .i32 (t 3)]] w fun e w' => e = .returned (.tuple #[.agg #[.int .i32 (cut n (fun i => addI (a i) (mulI (subI (b i) (a i)) (t i))) 0), .int .i32 (cut n (fun i => addI (a i) (mulI (subI (b i) (a i)) (t i))) 1), .int .i32 (cut n (fun i => addI (a i) (mulI (subI (b i) (a i)) (t i))) 2), .int .i32 (cut n (fun i => addI (a i) (mulI (subI (b i) (a i)) (t i))) 3)], .int .i64 0]) ∧ Ext w w' := by
  have HI := hide (And.intro Ia (And.intro Ib It))
  clear Ia Ib It
  go_enter Try.func65, Try.ntmps65
  go_wp2_with fail
  refine (each_any n 69 _ (fun i => addI (a i) (mulI (subI (b i) (a i)) (t i))) _ h1 h4 mix1_enters (by
    intro i W hi _ hx
    exact mix1_any i hi a b t _ _ _ W (((((Blk.at rfl).alloc _).alloc _).alloc _).ext hx) ((((Blk.at (by simp)).alloc _).alloc _).ext hx) (((Blk.at (by simp)).alloc _).ext hx) (unhide HI).1 (unhide HI).2.1 (unhide HI).2.2)).mono ?_
  rintro e w1 ⟨rfl, hx⟩
  have R := hide (And.intro ((Blk.at (b := w.heap.size + 1 + 1 + 1) (by simp)).ext hx) (((((((Ext.refl w).alloc _).alloc _).alloc _).alloc _)).trans hx))
  clear hx
  obtain ⟨r0, r1, r2, r3⟩ := Blk.vec4 (a := nul) (unhide R).1
  obtain ⟨f0, f1, f2, f3⟩ := (unhide R).1.free4
  go_wp2
  obtain ⟨q0, q1, q2, q3⟩ := lay4 (a := nul) (unhide R).1 (.int .i32 (cut n (fun i => addI (a i) (mulI (subI (b i) (a i)) (t i))) 0)) (.int .i32 (cut n (fun i => addI (a i) (mulI (subI (b i) (a i)) (t i))) 1)) (.int .i32 (cut n (fun i => addI (a i) (mulI (subI (b i) (a i)) (t i))) 2)) (.int .i32 (cut n (fun i => addI (a i) (mulI (subI (b i) (a i)) (t i))) 3))
  refine bodyPost_ret (v := .tuple #[.agg #[.int .i32 (cut n (fun i => addI (a i) (mulI (subI (b i) (a i)) (t i))) 0), .int .i32 (cut n (fun i => addI (a i) (mulI (subI (b i) (a i)) (t i))) 1), .int .i32 (cut n (fun i => addI (a i) (mulI (subI (b i) (a i)) (t i))) 2), .int .i32 (cut n (fun i => addI (a i) (mulI (subI (b i) (a i)) (t i))) 3)], .int .i64 0]) (by simp [results, Try.results65, go_sem, q0, q1, q2, q3]) rfl ⟨rfl, ?_⟩
  exact ext_set4 (unhide R).2 (by omega)

theorem mixV_off (n : Int) (a b t : Nat → Int) (w : World) (h : n < 1 ∨ 4 < n) :
    Calls Try.prog 65 #[.int .i64 n, .agg #[.int .i32 (a 0), .int .i32 (a 1), .int .i32 (a 2), .int .i32 (a 3)], .agg #[.int .i32 (b 0), .int .i32 (b 1), .int .i32 (b 2), .int .i32 (b 3)], .agg #[.int .i32 (t 0), .int .i32 (t 1), .int .i32 (t 2), .int .i32 (t 3)]] w fun e w' => e = .returned (.tuple #[.agg #[.int .i32 0, .int .i32 0, .int .i32 0, .int .i32 0], .int .i64 2]) ∧ Ext w w' := by
  go_enter Try.func65, Try.ntmps65
  go_wp2_with fail
  refine (each_bad _ _ _ h).mono ?_
  rintro e w1 ⟨rfl, hx⟩
  have R := hide (And.intro ((Blk.at (b := w.heap.size + 1 + 1 + 1) (by simp)).ext hx) (((((((Ext.refl w).alloc _).alloc _).alloc _).alloc _)).trans hx))
  clear hx
  obtain ⟨r0, r1, r2, r3⟩ := Blk.vec4 (a := nul) (unhide R).1
  obtain ⟨f0, f1, f2, f3⟩ := (unhide R).1.free4
  go_wp2
  obtain ⟨q0, q1, q2, q3⟩ := lay4 (a := nul) (unhide R).1 (.int .i32 0) (.int .i32 0) (.int .i32 0) (.int .i32 0)
  refine bodyPost_ret (v := .tuple #[.agg #[.int .i32 0, .int .i32 0, .int .i32 0, .int .i32 0], .int .i64 2]) (by simp [results, Try.results65, go_sem, q0, q1, q2, q3]) rfl ⟨rfl, ?_⟩
  exact ext_set4 (unhide R).2 (by omega)

end Go.Proofs.Ytbhdloanlagddaa
