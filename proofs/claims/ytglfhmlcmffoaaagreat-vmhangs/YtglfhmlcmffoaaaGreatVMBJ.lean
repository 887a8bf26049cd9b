/- Several texts in one. -/
import Derived.Test.YtglfhmlcmffoaaaGreatVMAJ
import Derived.Test.YtglfhmlcmffoaaaGreatMYJ
import Derived.Test.YtglfhmlcmffoaaaGreatLemJ
/-
  The machine of registers: what functions do to whole numbers (ofInts), which are vec's (ofTwo, ofOne), which are maths' (ofMaths). Written by mkvm.py.
-/
namespace Go.Proofs.YtglfhmlcmffoaaaGreat
open Go.RowKit
set_option linter.unusedVariables false
set_option linter.unusedSimpArgs false

/-- A number, modulo 2 to the power 32. -/
def w32 (x : Int) : Int := wrap32 x
theorem w32_i32 (x : Int) : I32 (w32 x) := by unfold w32 I32 wrap32; omega
/-- How often y goes into x, towards 0; 0 of y being 0. -/
def quoI (x y : Int) : Int := if y = 0 then 0 else w32 (x.tdiv y)
theorem quoI_i32 (x y : Int) : I32 (quoI x y) := by
  unfold quoI
  split
  · unfold I32; omega
  · exact w32_i32 _
/-- What a function does to whole numbers. -/
def oiI (fn n : Int) (a b : Nat → Int) : Nat → Int :=
  if fn = 24 then cut n (fun i => w32 (a i + b i)) else if fn = 25 then cut n (fun i => w32 (a i - b i)) else if fn = 26 then cut n (fun i => w32 (a i * b i)) else if fn = 27 then cut n (fun i => quoI (a i) (b i)) else cut n (fun i => w32 (-(a i)))
theorem oiI_i32 (fn n : Int) (a b : Nat → Int) (i : Nat) : I32 (oiI fn n a b i) := by
  unfold oiI
  split; exact cut_i32 (fun i => w32_i32 _) i
  split; exact cut_i32 (fun i => w32_i32 _) i
  split; exact cut_i32 (fun i => w32_i32 _) i
  split; exact cut_i32 (fun i => quoI_i32 _ _) i
  exact cut_i32 (fun i => w32_i32 _) i

theorem oi1_any (x y : Int) (w : World) (hx : I32 x) (hy : I32 y) : Calls Tryz.prog 100 #[.int .i32 x, .int .i32 y] w fun e w' => e = .returned (.int .i32 (w32 (x + y))) ∧ Ext w w' := by
  clear hx hy
  have HW := hide (show wrap32 (x + y) = w32 (x + y) from rfl)
  go_enter Tryz.func100, Tryz.ntmps100
  go_wp2
  go_ret
  exact ⟨by first | rfl | (rw [← unhide HW]; rfl) | simp [w32], Ext.refl _⟩
theorem oi1_enters : ∀ args w, (callFunc 100 args).run Tryz.prog w = .ok (.enter 100 args) w := enters_of Tryz.func100 (by kernel_rfl) rfl

theorem oi2_any (x y : Int) (w : World) (hx : I32 x) (hy : I32 y) : Calls Tryz.prog 101 #[.int .i32 x, .int .i32 y] w fun e w' => e = .returned (.int .i32 (w32 (x - y))) ∧ Ext w w' := by
  clear hx hy
  have HW := hide (show wrap32 (x - y) = w32 (x - y) from rfl)
  go_enter Tryz.func101, Tryz.ntmps101
  go_wp2
  go_ret
  exact ⟨by first | rfl | (rw [← unhide HW]; rfl) | simp [w32], Ext.refl _⟩
theorem oi2_enters : ∀ args w, (callFunc 101 args).run Tryz.prog w = .ok (.enter 101 args) w := enters_of Tryz.func101 (by kernel_rfl) rfl

theorem oi3_any (x y : Int) (w : World) (hx : I32 x) (hy : I32 y) : Calls Tryz.prog 102 #[.int .i32 x, .int .i32 y] w fun e w' => e = .returned (.int .i32 (w32 (x * y))) ∧ Ext w w' := by
  clear hx hy
  have HW := hide (show wrap32 (x * y) = w32 (x * y) from rfl)
  go_enter Tryz.func102, Tryz.ntmps102
  go_wp2
  go_ret
  exact ⟨by first | rfl | (rw [← unhide HW]; rfl) | simp [w32], Ext.refl _⟩
theorem oi3_enters : ∀ args w, (callFunc 102 args).run Tryz.prog w = .ok (.enter 102 args) w := enters_of Tryz.func102 (by kernel_rfl) rfl

theorem oi5_any (x : Int) (w : World) (hx : I32 x) : Calls Tryz.prog 105 #[.int .i32 x] w fun e w' => e = .returned (.int .i32 (w32 (-x))) ∧ Ext w w' := by
  clear hx
  go_enter Tryz.func105, Tryz.ntmps105
  go_wp2
  go_ret
  exact ⟨by first | rfl | simp [w32], Ext.refl _⟩
theorem oi5_enters : ∀ args w, (callFunc 105 args).run Tryz.prog w = .ok (.enter 105 args) w := enters_of Tryz.func105 (by kernel_rfl) rfl

theorem quotient_any (x y : Int) (w : World) (hx : I32 x) (hy : I32 y) : Calls Tryz.prog 103 #[.int .i32 x, .int .i32 y] w fun e w' => e = .returned (.int .i32 (quoI x y)) ∧ Ext w w' := by
  clear hx hy
  by_cases h : y = 0
  · subst h
    have E : Hid (quoI x 0 = 0) := rfl
    go_enter Tryz.func103, Tryz.ntmps103
    go_wp2
    go_ret
    rw [unhide E]
    exact ⟨rfl, Ext.refl _⟩
  · have E : Hid (quoI x y = w32 (x.tdiv y)) := if_neg h
    have d : (y == 0) = false := by simp [h]
    go_enter Tryz.func103, Tryz.ntmps103
    go_wp2
    go_ret
    rw [unhide E]
    exact ⟨by first | rfl | simp [w32], Ext.refl _⟩
theorem quotient_enters : ∀ args w, (callFunc 103 args).run Tryz.prog w = .ok (.enter 103 args) w := enters_of Tryz.func103 (by kernel_rfl) rfl

set_option maxRecDepth 10000 in
set_option maxHeartbeats 4000000 in
theorem ofInts_any (fn n : Int) (a b : Nat → Int) (w : World) (h1 : 1 ≤ n) (h4 : n ≤ 4) (Ia : ∀ i, I32 (a i)) (Ib : ∀ i, I32 (b i)) :
    Calls Tryz.prog 67 #[.int .i64 fn, .int .i64 n, .agg #[.int .i32 (a 0), .int .i32 (a 1), .int .i32 (a 2), .int .i32 (a 3)], .agg #[.int .i32 (b 0), .int .i32 (b 1), .int .i32 (b 2), .int .i32 (b 3)]] w fun e w' => e = .returned (.agg #[.int .i32 (oiI fn n a b 0), .int .i32 (oiI fn n a b 1), .int .i32 (oiI fn n a b 2), .int .i32 (oiI fn n a b 3)]) ∧ Ext w w' := by
  have HI := hide (And.intro Ia Ib)
  clear Ia Ib
  have HB := hide (show Blk (((w.alloc (.cells #[.int .i32 (a 0), .int .i32 (a 1), .int .i32 (a 2), .int .i32 (a 3)] 28)).alloc (.cells #[.int .i32 (b 0), .int .i32 (b 1), .int .i32 (b 2), .int .i32 (b 3)] 28)).alloc (.cells #[.int .i32 (nul 0), .int .i32 (nul 1), .int .i32 (nul 2), .int .i32 (nul 3)] 28)) (w.heap.size + 1 + 1) #[.int .i32 (nul 0), .int .i32 (nul 1), .int .i32 (nul 2), .int .i32 (nul 3)] 28 ∧ Ext w (((w.alloc (.cells #[.int .i32 (a 0), .int .i32 (a 1), .int .i32 (a 2), .int .i32 (a 3)] 28)).alloc (.cells #[.int .i32 (b 0), .int .i32 (b 1), .int .i32 (b 2), .int .i32 (b 3)] 28)).alloc (.cells #[.int .i32 (nul 0), .int .i32 (nul 1), .int .i32 (nul 2), .int .i32 (nul 3)] 28)) from ⟨Blk.at (by simp), ((((Ext.refl w).alloc _).alloc _).alloc _)⟩)
  by_cases e24 : fn = 24
  case pos =>
    subst e24
    have E : Hid (oiI 24 n a b = cut n (fun i => w32 (a i + b i))) := rfl
    go_enter Tryz.func67, Tryz.ntmps67
    go_wp2_with (go_at_call 99; refine (byTwo_any n 100 (fun x y => w32 (x + y)) a b _ h1 h4 oi1_enters (fun x y W hx hy => oi1_any x y W hx hy) (unhide HI).1 (unhide HI).2).mono ?_; rintro e w1 ⟨rfl, hx⟩; have R := hide (And.intro ((unhide HB).1.ext hx) ((unhide HB).2.trans hx)); clear hx HB; obtain ⟨r0, r1, r2, r3⟩ := (unhide R).1.vec4; obtain ⟨f0, f1, f2, f3⟩ := (unhide R).1.free4)
    obtain ⟨q0, q1, q2, q3⟩ := lay4 (unhide R).1 (.int .i32 ((cut n (fun i => w32 (a i + b i))) 0)) (.int .i32 ((cut n (fun i => w32 (a i + b i))) 1)) (.int .i32 ((cut n (fun i => w32 (a i + b i))) 2)) (.int .i32 ((cut n (fun i => w32 (a i + b i))) 3))
    refine bodyPost_ret (v := .agg #[.int .i32 ((cut n (fun i => w32 (a i + b i))) 0), .int .i32 ((cut n (fun i => w32 (a i + b i))) 1), .int .i32 ((cut n (fun i => w32 (a i + b i))) 2), .int .i32 ((cut n (fun i => w32 (a i + b i))) 3)]) (by simp [results, Tryz.results67, go_sem, q0, q1, q2, q3]) rfl ⟨by rw [unhide E], ext_set4 (unhide R).2 (by omega)⟩
  case neg =>
  have d24 : (fn == 24) = false := by simp [e24]
  by_cases e25 : fn = 25
  case pos =>
    subst e25
    have E : Hid (oiI 25 n a b = cut n (fun i => w32 (a i - b i))) := rfl
    go_enter Tryz.func67, Tryz.ntmps67
    go_wp2_with (go_at_call 99; refine (byTwo_any n 101 (fun x y => w32 (x - y)) a b _ h1 h4 oi2_enters (fun x y W hx hy => oi2_any x y W hx hy) (unhide HI).1 (unhide HI).2).mono ?_; rintro e w1 ⟨rfl, hx⟩; have R := hide (And.intro ((unhide HB).1.ext hx) ((unhide HB).2.trans hx)); clear hx HB; obtain ⟨r0, r1, r2, r3⟩ := (unhide R).1.vec4; obtain ⟨f0, f1, f2, f3⟩ := (unhide R).1.free4)
    obtain ⟨q0, q1, q2, q3⟩ := lay4 (unhide R).1 (.int .i32 ((cut n (fun i => w32 (a i - b i))) 0)) (.int .i32 ((cut n (fun i => w32 (a i - b i))) 1)) (.int .i32 ((cut n (fun i => w32 (a i - b i))) 2)) (.int .i32 ((cut n (fun i => w32 (a i - b i))) 3))
    refine bodyPost_ret (v := .agg #[.int .i32 ((cut n (fun i => w32 (a i - b i))) 0), .int .i32 ((cut n (fun i => w32 (a i - b i))) 1), .int .i32 ((cut n (fun i => w32 (a i - b i))) 2), .int .i32 ((cut n (fun i => w32 (a i - b i))) 3)]) (by simp [results, Tryz.results67, go_sem, q0, q1, q2, q3]) rfl ⟨by rw [unhide E], ext_set4 (unhide R).2 (by omega)⟩
  case neg =>
  have d25 : (fn == 25) = false := by simp [e25]
  by_cases e26 : fn = 26
  case pos =>
    subst e26
    have E : Hid (oiI 26 n a b = cut n (fun i => w32 (a i * b i))) := rfl
    go_enter Tryz.func67, Tryz.ntmps67
    go_wp2_with (go_at_call 99; refine (byTwo_any n 102 (fun x y => w32 (x * y)) a b _ h1 h4 oi3_enters (fun x y W hx hy => oi3_any x y W hx hy) (unhide HI).1 (unhide HI).2).mono ?_; rintro e w1 ⟨rfl, hx⟩; have R := hide (And.intro ((unhide HB).1.ext hx) ((unhide HB).2.trans hx)); clear hx HB; obtain ⟨r0, r1, r2, r3⟩ := (unhide R).1.vec4; obtain ⟨f0, f1, f2, f3⟩ := (unhide R).1.free4)
    obtain ⟨q0, q1, q2, q3⟩ := lay4 (unhide R).1 (.int .i32 ((cut n (fun i => w32 (a i * b i))) 0)) (.int .i32 ((cut n (fun i => w32 (a i * b i))) 1)) (.int .i32 ((cut n (fun i => w32 (a i * b i))) 2)) (.int .i32 ((cut n (fun i => w32 (a i * b i))) 3))
    refine bodyPost_ret (v := .agg #[.int .i32 ((cut n (fun i => w32 (a i * b i))) 0), .int .i32 ((cut n (fun i => w32 (a i * b i))) 1), .int .i32 ((cut n (fun i => w32 (a i * b i))) 2), .int .i32 ((cut n (fun i => w32 (a i * b i))) 3)]) (by simp [results, Tryz.results67, go_sem, q0, q1, q2, q3]) rfl ⟨by rw [unhide E], ext_set4 (unhide R).2 (by omega)⟩
  case neg =>
  have d26 : (fn == 26) = false := by simp [e26]
  by_cases e27 : fn = 27
  case pos =>
    subst e27
    have E : Hid (oiI 27 n a b = cut n (fun i => quoI (a i) (b i))) := rfl
    go_enter Tryz.func67, Tryz.ntmps67
    go_wp2_with (go_at_call 99; refine (byTwo_any n 103 (quoI) a b _ h1 h4 quotient_enters (fun x y W hx hy => quotient_any x y W hx hy) (unhide HI).1 (unhide HI).2).mono ?_; rintro e w1 ⟨rfl, hx⟩; have R := hide (And.intro ((unhide HB).1.ext hx) ((unhide HB).2.trans hx)); clear hx HB; obtain ⟨r0, r1, r2, r3⟩ := (unhide R).1.vec4; obtain ⟨f0, f1, f2, f3⟩ := (unhide R).1.free4)
    obtain ⟨q0, q1, q2, q3⟩ := lay4 (unhide R).1 (.int .i32 ((cut n (fun i => quoI (a i) (b i))) 0)) (.int .i32 ((cut n (fun i => quoI (a i) (b i))) 1)) (.int .i32 ((cut n (fun i => quoI (a i) (b i))) 2)) (.int .i32 ((cut n (fun i => quoI (a i) (b i))) 3))
    refine bodyPost_ret (v := .agg #[.int .i32 ((cut n (fun i => quoI (a i) (b i))) 0), .int .i32 ((cut n (fun i => quoI (a i) (b i))) 1), .int .i32 ((cut n (fun i => quoI (a i) (b i))) 2), .int .i32 ((cut n (fun i => quoI (a i) (b i))) 3)]) (by simp [results, Tryz.results67, go_sem, q0, q1, q2, q3]) rfl ⟨by rw [unhide E], ext_set4 (unhide R).2 (by omega)⟩
  case neg =>
  have d27 : (fn == 27) = false := by simp [e27]
  have E : Hid (oiI fn n a b = cut n (fun i => w32 (-(a i)))) := by unfold oiI; rw [if_neg e24, if_neg e25, if_neg e26, if_neg e27]; trivial
  clear e24 e25 e26 e27
  go_enter Tryz.func67, Tryz.ntmps67
  go_wp2_with (go_at_call 104; refine (byOne_any n 105 (fun x => w32 (-x)) a _ h1 h4 oi5_enters (fun x W hx => oi5_any x W hx) (unhide HI).1).mono ?_; rintro e w1 ⟨rfl, hx⟩; have R := hide (And.intro ((unhide HB).1.ext hx) ((unhide HB).2.trans hx)); clear hx HB; obtain ⟨r0, r1, r2, r3⟩ := (unhide R).1.vec4; obtain ⟨f0, f1, f2, f3⟩ := (unhide R).1.free4)
  obtain ⟨q0, q1, q2, q3⟩ := lay4 (unhide R).1 (.int .i32 ((cut n (fun i => w32 (-(a i)))) 0)) (.int .i32 ((cut n (fun i => w32 (-(a i)))) 1)) (.int .i32 ((cut n (fun i => w32 (-(a i)))) 2)) (.int .i32 ((cut n (fun i => w32 (-(a i)))) 3))
  refine bodyPost_ret (v := .agg #[.int .i32 ((cut n (fun i => w32 (-(a i)))) 0), .int .i32 ((cut n (fun i => w32 (-(a i)))) 1), .int .i32 ((cut n (fun i => w32 (-(a i)))) 2), .int .i32 ((cut n (fun i => w32 (-(a i)))) 3)]) (by simp [results, Tryz.results67, go_sem, q0, q1, q2, q3]) rfl ⟨by rw [unhide E], ext_set4 (unhide R).2 (by omega)⟩
def ofTwoN (fn : Int) : Option Int := if fn = 24 then some 0 else if fn = 25 then some 1 else if fn = 26 then some 2 else if fn = 27 then some 3 else if fn = 12 then some 4 else if fn = 13 then some 5 else if fn = 14 then some 6 else if fn = 16 then some 7 else none
set_option maxHeartbeats 1000000 in
theorem ofTwo_some (fn op : Int) (w : World) (h : ofTwoN fn = some op) : Calls Tryz.prog 152 #[.int .i64 fn] w fun e w' => e = .returned (.tuple #[.int .i64 op, .bool true]) ∧ w' = w := by
  unfold ofTwoN at h
  by_cases e24 : fn = 24
  case pos =>
    subst e24
    obtain rfl : 0 = op := by simpa using h
    clear h
    go_enter Tryz.func152, Tryz.ntmps152
    go_wp2
    refine bodyPost_ret (v := .tuple #[.int .i64 0, .bool true]) (by simp [results, Tryz.results152, go_sem]) rfl ⟨rfl, rfl⟩
  case neg =>
  rw [if_neg e24] at h
  by_cases e25 : fn = 25
  case pos =>
    subst e25
    obtain rfl : 1 = op := by simpa using h
    clear h
    go_enter Tryz.func152, Tryz.ntmps152
    go_wp2
    refine bodyPost_ret (v := .tuple #[.int .i64 1, .bool true]) (by simp [results, Tryz.results152, go_sem]) rfl ⟨rfl, rfl⟩
  case neg =>
  rw [if_neg e25] at h
  by_cases e26 : fn = 26
  case pos =>
    subst e26
    obtain rfl : 2 = op := by simpa using h
    clear h
    go_enter Tryz.func152, Tryz.ntmps152
    go_wp2
    refine bodyPost_ret (v := .tuple #[.int .i64 2, .bool true]) (by simp [results, Tryz.results152, go_sem]) rfl ⟨rfl, rfl⟩
  case neg =>
  rw [if_neg e26] at h
  by_cases e27 : fn = 27
  case pos =>
    subst e27
    obtain rfl : 3 = op := by simpa using h
    clear h
    go_enter Tryz.func152, Tryz.ntmps152
    go_wp2
    refine bodyPost_ret (v := .tuple #[.int .i64 3, .bool true]) (by simp [results, Tryz.results152, go_sem]) rfl ⟨rfl, rfl⟩
  case neg =>
  rw [if_neg e27] at h
  by_cases e12 : fn = 12
  case pos =>
    subst e12
    obtain rfl : 4 = op := by simpa using h
    clear h
    go_enter Tryz.func152, Tryz.ntmps152
    go_wp2
    refine bodyPost_ret (v := .tuple #[.int .i64 4, .bool true]) (by simp [results, Tryz.results152, go_sem]) rfl ⟨rfl, rfl⟩
  case neg =>
  rw [if_neg e12] at h
  by_cases e13 : fn = 13
  case pos =>
    subst e13
    obtain rfl : 5 = op := by simpa using h
    clear h
    go_enter Tryz.func152, Tryz.ntmps152
    go_wp2
    refine bodyPost_ret (v := .tuple #[.int .i64 5, .bool true]) (by simp [results, Tryz.results152, go_sem]) rfl ⟨rfl, rfl⟩
  case neg =>
  rw [if_neg e13] at h
  by_cases e14 : fn = 14
  case pos =>
    subst e14
    obtain rfl : 6 = op := by simpa using h
    clear h
    go_enter Tryz.func152, Tryz.ntmps152
    go_wp2
    refine bodyPost_ret (v := .tuple #[.int .i64 6, .bool true]) (by simp [results, Tryz.results152, go_sem]) rfl ⟨rfl, rfl⟩
  case neg =>
  rw [if_neg e14] at h
  by_cases e16 : fn = 16
  case pos =>
    subst e16
    obtain rfl : 7 = op := by simpa using h
    clear h
    go_enter Tryz.func152, Tryz.ntmps152
    go_wp2
    refine bodyPost_ret (v := .tuple #[.int .i64 7, .bool true]) (by simp [results, Tryz.results152, go_sem]) rfl ⟨rfl, rfl⟩
  case neg =>
  rw [if_neg e16] at h
  cases h

set_option maxHeartbeats 1000000 in
theorem ofTwo_none (fn : Int) (w : World) (h : ofTwoN fn = none) : Calls Tryz.prog 152 #[.int .i64 fn] w fun e w' => e = .returned (.tuple #[.int .i64 0, .bool false]) ∧ w' = w := by
  unfold ofTwoN at h
  by_cases e24 : fn = 24
  case pos => rw [if_pos e24] at h; cases h
  case neg =>
  rw [if_neg e24] at h
  have d24 : (fn == 24) = false := by simp [e24]
  by_cases e25 : fn = 25
  case pos => rw [if_pos e25] at h; cases h
  case neg =>
  rw [if_neg e25] at h
  have d25 : (fn == 25) = false := by simp [e25]
  by_cases e26 : fn = 26
  case pos => rw [if_pos e26] at h; cases h
  case neg =>
  rw [if_neg e26] at h
  have d26 : (fn == 26) = false := by simp [e26]
  by_cases e27 : fn = 27
  case pos => rw [if_pos e27] at h; cases h
  case neg =>
  rw [if_neg e27] at h
  have d27 : (fn == 27) = false := by simp [e27]
  by_cases e12 : fn = 12
  case pos => rw [if_pos e12] at h; cases h
  case neg =>
  rw [if_neg e12] at h
  have d12 : (fn == 12) = false := by simp [e12]
  by_cases e13 : fn = 13
  case pos => rw [if_pos e13] at h; cases h
  case neg =>
  rw [if_neg e13] at h
  have d13 : (fn == 13) = false := by simp [e13]
  by_cases e14 : fn = 14
  case pos => rw [if_pos e14] at h; cases h
  case neg =>
  rw [if_neg e14] at h
  have d14 : (fn == 14) = false := by simp [e14]
  by_cases e16 : fn = 16
  case pos => rw [if_pos e16] at h; cases h
  case neg =>
  rw [if_neg e16] at h
  have d16 : (fn == 16) = false := by simp [e16]
  clear h e24 e25 e26 e27 e12 e13 e14 e16
  go_enter Tryz.func152, Tryz.ntmps152
  go_wp2
  refine bodyPost_ret (v := .tuple #[.int .i64 0, .bool false]) (by simp [results, Tryz.results152, go_sem]) rfl ⟨rfl, rfl⟩
theorem ofTwoN_in {fn op : Int} (h : ofTwoN fn = some op) : 0 ≤ op ∧ op ≤ 7 := by
  unfold ofTwoN at h
  repeat' split at h
  all_goals simp at h
  all_goals omega

def ofOneN (fn : Int) : Option Int := if fn = 28 then some 0 else if fn = 1 then some 1 else if fn = 2 then some 2 else if fn = 3 then some 3 else if fn = 4 then some 4 else none
set_option maxHeartbeats 1000000 in
theorem ofOne_some (fn op : Int) (w : World) (h : ofOneN fn = some op) : Calls Tryz.prog 153 #[.int .i64 fn] w fun e w' => e = .returned (.tuple #[.int .i64 op, .bool true]) ∧ w' = w := by
  unfold ofOneN at h
  by_cases e28 : fn = 28
  case pos =>
    subst e28
    obtain rfl : 0 = op := by simpa using h
    clear h
    go_enter Tryz.func153, Tryz.ntmps153
    go_wp2
    refine bodyPost_ret (v := .tuple #[.int .i64 0, .bool true]) (by simp [results, Tryz.results153, go_sem]) rfl ⟨rfl, rfl⟩
  case neg =>
  rw [if_neg e28] at h
  by_cases e1 : fn = 1
  case pos =>
    subst e1
    obtain rfl : 1 = op := by simpa using h
    clear h
    go_enter Tryz.func153, Tryz.ntmps153
    go_wp2
    refine bodyPost_ret (v := .tuple #[.int .i64 1, .bool true]) (by simp [results, Tryz.results153, go_sem]) rfl ⟨rfl, rfl⟩
  case neg =>
  rw [if_neg e1] at h
  by_cases e2 : fn = 2
  case pos =>
    subst e2
    obtain rfl : 2 = op := by simpa using h
    clear h
    go_enter Tryz.func153, Tryz.ntmps153
    go_wp2
    refine bodyPost_ret (v := .tuple #[.int .i64 2, .bool true]) (by simp [results, Tryz.results153, go_sem]) rfl ⟨rfl, rfl⟩
  case neg =>
  rw [if_neg e2] at h
  by_cases e3 : fn = 3
  case pos =>
    subst e3
    obtain rfl : 3 = op := by simpa using h
    clear h
    go_enter Tryz.func153, Tryz.ntmps153
    go_wp2
    refine bodyPost_ret (v := .tuple #[.int .i64 3, .bool true]) (by simp [results, Tryz.results153, go_sem]) rfl ⟨rfl, rfl⟩
  case neg =>
  rw [if_neg e3] at h
  by_cases e4 : fn = 4
  case pos =>
    subst e4
    obtain rfl : 4 = op := by simpa using h
    clear h
    go_enter Tryz.func153, Tryz.ntmps153
    go_wp2
    refine bodyPost_ret (v := .tuple #[.int .i64 4, .bool true]) (by simp [results, Tryz.results153, go_sem]) rfl ⟨rfl, rfl⟩
  case neg =>
  rw [if_neg e4] at h
  cases h

set_option maxHeartbeats 1000000 in
theorem ofOne_none (fn : Int) (w : World) (h : ofOneN fn = none) : Calls Tryz.prog 153 #[.int .i64 fn] w fun e w' => e = .returned (.tuple #[.int .i64 0, .bool false]) ∧ w' = w := by
  unfold ofOneN at h
  by_cases e28 : fn = 28
  case pos => rw [if_pos e28] at h; cases h
  case neg =>
  rw [if_neg e28] at h
  have d28 : (fn == 28) = false := by simp [e28]
  by_cases e1 : fn = 1
  case pos => rw [if_pos e1] at h; cases h
  case neg =>
  rw [if_neg e1] at h
  have d1 : (fn == 1) = false := by simp [e1]
  by_cases e2 : fn = 2
  case pos => rw [if_pos e2] at h; cases h
  case neg =>
  rw [if_neg e2] at h
  have d2 : (fn == 2) = false := by simp [e2]
  by_cases e3 : fn = 3
  case pos => rw [if_pos e3] at h; cases h
  case neg =>
  rw [if_neg e3] at h
  have d3 : (fn == 3) = false := by simp [e3]
  by_cases e4 : fn = 4
  case pos => rw [if_pos e4] at h; cases h
  case neg =>
  rw [if_neg e4] at h
  have d4 : (fn == 4) = false := by simp [e4]
  clear h e28 e1 e2 e3 e4
  go_enter Tryz.func153, Tryz.ntmps153
  go_wp2
  refine bodyPost_ret (v := .tuple #[.int .i64 0, .bool false]) (by simp [results, Tryz.results153, go_sem]) rfl ⟨rfl, rfl⟩
theorem ofOneN_in {fn op : Int} (h : ofOneN fn = some op) : 0 ≤ op ∧ op ≤ 4 := by
  unfold ofOneN at h
  repeat' split at h
  all_goals simp at h
  all_goals omega

def mtI (fn n : Int) (a b : Nat → Int) : Nat → Int := if fn = 5 then cut n (fun i => sqrtI (a i)) else if fn = 6 then cut n (fun i => invI (a i)) else if fn = 7 then cut n (fun i => exp2I (a i)) else if fn = 8 then cut n (fun i => log2I (a i)) else if fn = 9 then cut n (fun i => sinI (a i)) else if fn = 10 then cut n (fun i => cosI (a i)) else cut n (fun i => powerI (a i) (b i))
theorem mt5_any (x : Int) (w : World) (h : I32 x) : Calls Tryz.prog 183 #[.int .i32 x] w fun e w' => e = .returned (.int .i32 (sqrtI x)) ∧ Ext w w' := by
  refine (sqrt_any x w h).mono ?_
  rintro e w1 ⟨rfl, rfl⟩
  exact ⟨rfl, Ext.refl _⟩
theorem mt5_enters : ∀ args w, (callFunc 183 args).run Tryz.prog w = .ok (.enter 183 args) w := enters_of Tryz.func183 (by kernel_rfl) rfl
theorem mt6_any (x : Int) (w : World) (h : I32 x) : Calls Tryz.prog 184 #[.int .i32 x] w fun e w' => e = .returned (.int .i32 (invI x)) ∧ Ext w w' := by
  refine (invSqrt_any x w h).mono ?_
  rintro e w1 ⟨rfl, rfl⟩
  exact ⟨rfl, Ext.refl _⟩
theorem mt6_enters : ∀ args w, (callFunc 184 args).run Tryz.prog w = .ok (.enter 184 args) w := enters_of Tryz.func184 (by kernel_rfl) rfl
theorem mt7_any (x : Int) (w : World) (h : I32 x) : Calls Tryz.prog 185 #[.int .i32 x] w fun e w' => e = .returned (.int .i32 (exp2I x)) ∧ Ext w w' := by
  refine (exp2_any x w h).mono ?_
  rintro e w1 ⟨rfl, hx⟩
  exact ⟨rfl, hx⟩
theorem mt7_enters : ∀ args w, (callFunc 185 args).run Tryz.prog w = .ok (.enter 185 args) w := enters_of Tryz.func185 (by kernel_rfl) rfl
theorem mt8_any (x : Int) (w : World) (h : I32 x) : Calls Tryz.prog 186 #[.int .i32 x] w fun e w' => e = .returned (.int .i32 (log2I x)) ∧ Ext w w' := by
  refine (log2_any x w h).mono ?_
  rintro e w1 ⟨rfl, m, rfl⟩
  exact ⟨rfl, (Ext.refl _).drewN _⟩
theorem mt8_enters : ∀ args w, (callFunc 186 args).run Tryz.prog w = .ok (.enter 186 args) w := enters_of Tryz.func186 (by kernel_rfl) rfl
theorem mt9_any (x : Int) (w : World) (h : I32 x) : Calls Tryz.prog 187 #[.int .i32 x] w fun e w' => e = .returned (.int .i32 (sinI x)) ∧ Ext w w' := by
  refine (sin_any x w h).mono ?_
  rintro e w1 ⟨rfl, rfl⟩
  exact ⟨rfl, Ext.refl _⟩
theorem mt9_enters : ∀ args w, (callFunc 187 args).run Tryz.prog w = .ok (.enter 187 args) w := enters_of Tryz.func187 (by kernel_rfl) rfl
theorem mt10_any (x : Int) (w : World) (h : I32 x) : Calls Tryz.prog 188 #[.int .i32 x] w fun e w' => e = .returned (.int .i32 (cosI x)) ∧ Ext w w' := by
  refine (cos_any x w h).mono ?_
  rintro e w1 ⟨rfl, rfl⟩
  exact ⟨rfl, Ext.refl _⟩
theorem mt10_enters : ∀ args w, (callFunc 188 args).run Tryz.prog w = .ok (.enter 188 args) w := enters_of Tryz.func188 (by kernel_rfl) rfl
theorem mtp_enters : ∀ args w, (callFunc 189 args).run Tryz.prog w = .ok (.enter 189 args) w := enters_of Tryz.func189 (by kernel_rfl) rfl

set_option maxRecDepth 10000 in
set_option maxHeartbeats 4000000 in
theorem ofMaths_any (fn n : Int) (a b : Nat → Int) (w : World) (h1 : 1 ≤ n) (h4 : n ≤ 4) (Ia : ∀ i, I32 (a i)) (Ib : ∀ i, I32 (b i)) :
    Calls Tryz.prog 155 #[.int .i64 fn, .int .i64 n, .agg #[.int .i32 (a 0), .int .i32 (a 1), .int .i32 (a 2), .int .i32 (a 3)], .agg #[.int .i32 (b 0), .int .i32 (b 1), .int .i32 (b 2), .int .i32 (b 3)]] w fun e w' => e = .returned (.agg #[.int .i32 (mtI fn n a b 0), .int .i32 (mtI fn n a b 1), .int .i32 (mtI fn n a b 2), .int .i32 (mtI fn n a b 3)]) ∧ Ext w w' := by
  have HI := hide (And.intro Ia Ib)
  clear Ia Ib
  have HB := hide (show Blk (((w.alloc (.cells #[.int .i32 (a 0), .int .i32 (a 1), .int .i32 (a 2), .int .i32 (a 3)] 28)).alloc (.cells #[.int .i32 (b 0), .int .i32 (b 1), .int .i32 (b 2), .int .i32 (b 3)] 28)).alloc (.cells #[.int .i32 (nul 0), .int .i32 (nul 1), .int .i32 (nul 2), .int .i32 (nul 3)] 28)) (w.heap.size + 1 + 1) #[.int .i32 (nul 0), .int .i32 (nul 1), .int .i32 (nul 2), .int .i32 (nul 3)] 28 ∧ Ext w (((w.alloc (.cells #[.int .i32 (a 0), .int .i32 (a 1), .int .i32 (a 2), .int .i32 (a 3)] 28)).alloc (.cells #[.int .i32 (b 0), .int .i32 (b 1), .int .i32 (b 2), .int .i32 (b 3)] 28)).alloc (.cells #[.int .i32 (nul 0), .int .i32 (nul 1), .int .i32 (nul 2), .int .i32 (nul 3)] 28)) from ⟨Blk.at (by simp), ((((Ext.refl w).alloc _).alloc _).alloc _)⟩)
  by_cases e5 : fn = 5
  case pos =>
    subst e5
    have E : Hid (mtI 5 n a b = cut n (fun i => sqrtI (a i))) := rfl
    go_enter Tryz.func155, Tryz.ntmps155
    go_wp2_with (go_at_call 104; refine (byOne_any n 183 sqrtI a _ h1 h4 mt5_enters (fun x W hx => mt5_any x W hx) (unhide HI).1).mono ?_; rintro e w1 ⟨rfl, hx⟩; have R := hide (And.intro ((unhide HB).1.ext hx) ((unhide HB).2.trans hx)); clear hx HB; obtain ⟨r0, r1, r2, r3⟩ := (unhide R).1.vec4; obtain ⟨f0, f1, f2, f3⟩ := (unhide R).1.free4)
    obtain ⟨q0, q1, q2, q3⟩ := lay4 (unhide R).1 (.int .i32 ((cut n (fun i => sqrtI (a i))) 0)) (.int .i32 ((cut n (fun i => sqrtI (a i))) 1)) (.int .i32 ((cut n (fun i => sqrtI (a i))) 2)) (.int .i32 ((cut n (fun i => sqrtI (a i))) 3))
    refine bodyPost_ret (v := .agg #[.int .i32 ((cut n (fun i => sqrtI (a i))) 0), .int .i32 ((cut n (fun i => sqrtI (a i))) 1), .int .i32 ((cut n (fun i => sqrtI (a i))) 2), .int .i32 ((cut n (fun i => sqrtI (a i))) 3)]) (by simp [results, Tryz.results155, go_sem, q0, q1, q2, q3]) rfl ⟨by rw [unhide E], ext_set4 (unhide R).2 (by omega)⟩
  case neg =>
  have d5 : (fn == 5) = false := by simp [e5]
  by_cases e6 : fn = 6
  case pos =>
    subst e6
    have E : Hid (mtI 6 n a b = cut n (fun i => invI (a i))) := rfl
    go_enter Tryz.func155, Tryz.ntmps155
    go_wp2_with (go_at_call 104; refine (byOne_any n 184 invI a _ h1 h4 mt6_enters (fun x W hx => mt6_any x W hx) (unhide HI).1).mono ?_; rintro e w1 ⟨rfl, hx⟩; have R := hide (And.intro ((unhide HB).1.ext hx) ((unhide HB).2.trans hx)); clear hx HB; obtain ⟨r0, r1, r2, r3⟩ := (unhide R).1.vec4; obtain ⟨f0, f1, f2, f3⟩ := (unhide R).1.free4)
    obtain ⟨q0, q1, q2, q3⟩ := lay4 (unhide R).1 (.int .i32 ((cut n (fun i => invI (a i))) 0)) (.int .i32 ((cut n (fun i => invI (a i))) 1)) (.int .i32 ((cut n (fun i => invI (a i))) 2)) (.int .i32 ((cut n (fun i => invI (a i))) 3))
    refine bodyPost_ret (v := .agg #[.int .i32 ((cut n (fun i => invI (a i))) 0), .int .i32 ((cut n (fun i => invI (a i))) 1), .int .i32 ((cut n (fun i => invI (a i))) 2), .int .i32 ((cut n (fun i => invI (a i))) 3)]) (by simp [results, Tryz.results155, go_sem, q0, q1, q2, q3]) rfl ⟨by rw [unhide E], ext_set4 (unhide R).2 (by omega)⟩
  case neg =>
  have d6 : (fn == 6) = false := by simp [e6]
  by_cases e7 : fn = 7
  case pos =>
    subst e7
    have E : Hid (mtI 7 n a b = cut n (fun i => exp2I (a i))) := rfl
    go_enter Tryz.func155, Tryz.ntmps155
    go_wp2_with (go_at_call 104; refine (byOne_any n 185 exp2I a _ h1 h4 mt7_enters (fun x W hx => mt7_any x W hx) (unhide HI).1).mono ?_; rintro e w1 ⟨rfl, hx⟩; have R := hide (And.intro ((unhide HB).1.ext hx) ((unhide HB).2.trans hx)); clear hx HB; obtain ⟨r0, r1, r2, r3⟩ := (unhide R).1.vec4; obtain ⟨f0, f1, f2, f3⟩ := (unhide R).1.free4)
    obtain ⟨q0, q1, q2, q3⟩ := lay4 (unhide R).1 (.int .i32 ((cut n (fun i => exp2I (a i))) 0)) (.int .i32 ((cut n (fun i => exp2I (a i))) 1)) (.int .i32 ((cut n (fun i => exp2I (a i))) 2)) (.int .i32 ((cut n (fun i => exp2I (a i))) 3))
    refine bodyPost_ret (v := .agg #[.int .i32 ((cut n (fun i => exp2I (a i))) 0), .int .i32 ((cut n (fun i => exp2I (a i))) 1), .int .i32 ((cut n (fun i => exp2I (a i))) 2), .int .i32 ((cut n (fun i => exp2I (a i))) 3)]) (by simp [results, Tryz.results155, go_sem, q0, q1, q2, q3]) rfl ⟨by rw [unhide E], ext_set4 (unhide R).2 (by omega)⟩
  case neg =>
  have d7 : (fn == 7) = false := by simp [e7]
  by_cases e8 : fn = 8
  case pos =>
    subst e8
    have E : Hid (mtI 8 n a b = cut n (fun i => log2I (a i))) := rfl
    go_enter Tryz.func155, Tryz.ntmps155
    go_wp2_with (go_at_call 104; refine (byOne_any n 186 log2I a _ h1 h4 mt8_enters (fun x W hx => mt8_any x W hx) (unhide HI).1).mono ?_; rintro e w1 ⟨rfl, hx⟩; have R := hide (And.intro ((unhide HB).1.ext hx) ((unhide HB).2.trans hx)); clear hx HB; obtain ⟨r0, r1, r2, r3⟩ := (unhide R).1.vec4; obtain ⟨f0, f1, f2, f3⟩ := (unhide R).1.free4)
    obtain ⟨q0, q1, q2, q3⟩ := lay4 (unhide R).1 (.int .i32 ((cut n (fun i => log2I (a i))) 0)) (.int .i32 ((cut n (fun i => log2I (a i))) 1)) (.int .i32 ((cut n (fun i => log2I (a i))) 2)) (.int .i32 ((cut n (fun i => log2I (a i))) 3))
    refine bodyPost_ret (v := .agg #[.int .i32 ((cut n (fun i => log2I (a i))) 0), .int .i32 ((cut n (fun i => log2I (a i))) 1), .int .i32 ((cut n (fun i => log2I (a i))) 2), .int .i32 ((cut n (fun i => log2I (a i))) 3)]) (by simp [results, Tryz.results155, go_sem, q0, q1, q2, q3]) rfl ⟨by rw [unhide E], ext_set4 (unhide R).2 (by omega)⟩
  case neg =>
  have d8 : (fn == 8) = false := by simp [e8]
  by_cases e9 : fn = 9
  case pos =>
    subst e9
    have E : Hid (mtI 9 n a b = cut n (fun i => sinI (a i))) := rfl
    go_enter Tryz.func155, Tryz.ntmps155
    go_wp2_with (go_at_call 104; refine (byOne_any n 187 sinI a _ h1 h4 mt9_enters (fun x W hx => mt9_any x W hx) (unhide HI).1).mono ?_; rintro e w1 ⟨rfl, hx⟩; have R := hide (And.intro ((unhide HB).1.ext hx) ((unhide HB).2.trans hx)); clear hx HB; obtain ⟨r0, r1, r2, r3⟩ := (unhide R).1.vec4; obtain ⟨f0, f1, f2, f3⟩ := (unhide R).1.free4)
    obtain ⟨q0, q1, q2, q3⟩ := lay4 (unhide R).1 (.int .i32 ((cut n (fun i => sinI (a i))) 0)) (.int .i32 ((cut n (fun i => sinI (a i))) 1)) (.int .i32 ((cut n (fun i => sinI (a i))) 2)) (.int .i32 ((cut n (fun i => sinI (a i))) 3))
    refine bodyPost_ret (v := .agg #[.int .i32 ((cut n (fun i => sinI (a i))) 0), .int .i32 ((cut n (fun i => sinI (a i))) 1), .int .i32 ((cut n (fun i => sinI (a i))) 2), .int .i32 ((cut n (fun i => sinI (a i))) 3)]) (by simp [results, Tryz.results155, go_sem, q0, q1, q2, q3]) rfl ⟨by rw [unhide E], ext_set4 (unhide R).2 (by omega)⟩
  case neg =>
  have d9 : (fn == 9) = false := by simp [e9]
  by_cases e10 : fn = 10
  case pos =>
    subst e10
    have E : Hid (mtI 10 n a b = cut n (fun i => cosI (a i))) := rfl
    go_enter Tryz.func155, Tryz.ntmps155
    go_wp2_with (go_at_call 104; refine (byOne_any n 188 cosI a _ h1 h4 mt10_enters (fun x W hx => mt10_any x W hx) (unhide HI).1).mono ?_; rintro e w1 ⟨rfl, hx⟩; have R := hide (And.intro ((unhide HB).1.ext hx) ((unhide HB).2.trans hx)); clear hx HB; obtain ⟨r0, r1, r2, r3⟩ := (unhide R).1.vec4; obtain ⟨f0, f1, f2, f3⟩ := (unhide R).1.free4)
    obtain ⟨q0, q1, q2, q3⟩ := lay4 (unhide R).1 (.int .i32 ((cut n (fun i => cosI (a i))) 0)) (.int .i32 ((cut n (fun i => cosI (a i))) 1)) (.int .i32 ((cut n (fun i => cosI (a i))) 2)) (.int .i32 ((cut n (fun i => cosI (a i))) 3))
    refine bodyPost_ret (v := .agg #[.int .i32 ((cut n (fun i => cosI (a i))) 0), .int .i32 ((cut n (fun i => cosI (a i))) 1), .int .i32 ((cut n (fun i => cosI (a i))) 2), .int .i32 ((cut n (fun i => cosI (a i))) 3)]) (by simp [results, Tryz.results155, go_sem, q0, q1, q2, q3]) rfl ⟨by rw [unhide E], ext_set4 (unhide R).2 (by omega)⟩
  case neg =>
  have d10 : (fn == 10) = false := by simp [e10]
  have E : Hid (mtI fn n a b = cut n (fun i => powerI (a i) (b i))) := by unfold mtI; rw [if_neg e5, if_neg e6, if_neg e7, if_neg e8, if_neg e9, if_neg e10]; trivial
  clear e5 e6 e7 e8 e9 e10
  go_enter Tryz.func155, Tryz.ntmps155
  go_wp2_with (go_at_call 99; refine (byTwo_any n 189 powerI a b _ h1 h4 mtp_enters (fun x y W hx hy => powOf_any x y W hx hy) (unhide HI).1 (unhide HI).2).mono ?_; rintro e w1 ⟨rfl, hx⟩; have R := hide (And.intro ((unhide HB).1.ext hx) ((unhide HB).2.trans hx)); clear hx HB; obtain ⟨r0, r1, r2, r3⟩ := (unhide R).1.vec4; obtain ⟨f0, f1, f2, f3⟩ := (unhide R).1.free4)
  obtain ⟨q0, q1, q2, q3⟩ := lay4 (unhide R).1 (.int .i32 ((cut n (fun i => powerI (a i) (b i))) 0)) (.int .i32 ((cut n (fun i => powerI (a i) (b i))) 1)) (.int .i32 ((cut n (fun i => powerI (a i) (b i))) 2)) (.int .i32 ((cut n (fun i => powerI (a i) (b i))) 3))
  refine bodyPost_ret (v := .agg #[.int .i32 ((cut n (fun i => powerI (a i) (b i))) 0), .int .i32 ((cut n (fun i => powerI (a i) (b i))) 1), .int .i32 ((cut n (fun i => powerI (a i) (b i))) 2), .int .i32 ((cut n (fun i => powerI (a i) (b i))) 3)]) (by simp [results, Tryz.results155, go_sem, q0, q1, q2, q3]) rfl ⟨by rw [unhide E], ext_set4 (unhide R).2 (by omega)⟩
end Go.Proofs.YtglfhmlcmffoaaaGreat

/-
  Vectors: Cross, Dot. What the dump lacks is left out.
-/
namespace Go.Proofs.YtglfhmlcmffoaaaGreat
open Go.RowKit
set_option linter.unusedVariables false

/-- A product less another one. -/
def crossI (a b : Nat → Int) (i j : Nat) : Int := subI (mulI (a i) (b j)) (mulI (a j) (b i))

theorem cross1_any (i j : Nat) (hi : i < 4) (hj : j < 4) (a b : Nat → Int) (ba bb : Nat) (w : World) (ha : Blk w ba #[.int .i32 (a 0), .int .i32 (a 1), .int .i32 (a 2), .int .i32 (a 3)] 28) (hb : Blk w bb #[.int .i32 (b 0), .int .i32 (b 1), .int .i32 (b 2), .int .i32 (b 3)] 28) (Ia : ∀ i, I32 (a i)) (Ib : ∀ i, I32 (b i)) :
    Calls Tryz.prog 150 #[.int .i64 i, .int .i64 j, .pointer (some ⟨ba, 0, none⟩), .pointer (some ⟨bb, 0, none⟩)] w fun e w' => e = .returned (.int .i32 (crossI a b i j)) ∧ Ext w w' := by
  have ca := ha.vec i hi
  have cb := hb.vec i hi
  have da := ha.vec j hj
  have db := hb.vec j hj
  have hi4 : (i : Int) < 4 := by omega
  have hj4 : (j : Int) < 4 := by omega
  have HI := hide (And.intro Ia Ib)
  clear Ia Ib ha hb
  go_enter Tryz.func150, Tryz.ntmps150
  go_wp2
  go_quiet (first | (go_at_call 142; refine Calls.quiet_of_same (mul_any _ _ _ ((unhide HI).1 _) ((unhide HI).2 _))) | (go_at_call 143; refine Calls.quiet_of_same (sub_any _ _ _ (mulI_i32 _ _) (mulI_i32 _ _))))
  go_wp2
  go_ret
  exact ⟨rfl, (Ext.refl w).drewN _⟩

set_option maxHeartbeats 1000000 in
theorem crossV_any (a b : Nat → Int) (w : World) (Ia : ∀ i, I32 (a i)) (Ib : ∀ i, I32 (b i)) :
    Calls Tryz.prog 110 #[.agg #[.int .i32 (a 0), .int .i32 (a 1), .int .i32 (a 2), .int .i32 (a 3)], .agg #[.int .i32 (b 0), .int .i32 (b 1), .int .i32 (b 2), .int .i32 (b 3)]] w fun e w' => e = .returned (.agg #[.int .i32 (crossI a b 1 2), .int .i32 (crossI a b 2 0), .int .i32 (crossI a b 0 1), .int .i32 0]) ∧ Ext w w' := by
  have B0 : Hid (Blk (((w.alloc (.cells #[.int .i32 (a 0), .int .i32 (a 1), .int .i32 (a 2), .int .i32 (a 3)] 28)).alloc (.cells #[.int .i32 (b 0), .int .i32 (b 1), .int .i32 (b 2), .int .i32 (b 3)] 28)).alloc (.cells #[.int .i32 0, .int .i32 0, .int .i32 0, .int .i32 0] 28)) w.heap.size #[.int .i32 (a 0), .int .i32 (a 1), .int .i32 (a 2), .int .i32 (a 3)] 28) := ((Blk.at rfl).alloc _).alloc _
  have B1 : Hid (Blk (((w.alloc (.cells #[.int .i32 (a 0), .int .i32 (a 1), .int .i32 (a 2), .int .i32 (a 3)] 28)).alloc (.cells #[.int .i32 (b 0), .int .i32 (b 1), .int .i32 (b 2), .int .i32 (b 3)] 28)).alloc (.cells #[.int .i32 0, .int .i32 0, .int .i32 0, .int .i32 0] 28)) (w.heap.size + 1) #[.int .i32 (b 0), .int .i32 (b 1), .int .i32 (b 2), .int .i32 (b 3)] 28) := (Blk.at (by simp)).alloc _
  have B2 : Hid (Blk (((w.alloc (.cells #[.int .i32 (a 0), .int .i32 (a 1), .int .i32 (a 2), .int .i32 (a 3)] 28)).alloc (.cells #[.int .i32 (b 0), .int .i32 (b 1), .int .i32 (b 2), .int .i32 (b 3)] 28)).alloc (.cells #[.int .i32 0, .int .i32 0, .int .i32 0, .int .i32 0] 28)) (w.heap.size + 1 + 1) #[.int .i32 (nul 0), .int .i32 (nul 1), .int .i32 (nul 2), .int .i32 (nul 3)] 28) := Blk.at (by simp)
  have X : Hid (Ext w (((w.alloc (.cells #[.int .i32 (a 0), .int .i32 (a 1), .int .i32 (a 2), .int .i32 (a 3)] 28)).alloc (.cells #[.int .i32 (b 0), .int .i32 (b 1), .int .i32 (b 2), .int .i32 (b 3)] 28)).alloc (.cells #[.int .i32 0, .int .i32 0, .int .i32 0, .int .i32 0] 28))) := (((Ext.refl w).alloc _).alloc _).alloc _
  go_enter Tryz.func110, Tryz.ntmps110
  go_wp2_with fail
  refine (cross1_any 1 2 (by omega) (by omega) a b _ _ _ (unhide B0) (unhide B1) Ia Ib).mono ?_
  rintro e w1 ⟨rfl, hx1⟩
  have C0 := hide ((unhide B0).ext hx1)
  have C1 := hide ((unhide B1).ext hx1)
  have C2 := hide ((unhide B2).ext hx1)
  have Y := hide ((unhide X).trans hx1)
  clear B0 B1 B2 X hx1
  go_wp2_with fail
  refine (cross1_any 2 0 (by omega) (by omega) a b _ _ _ (unhide C0) (unhide C1) Ia Ib).mono ?_
  rintro e w2 ⟨rfl, hx1⟩
  have D0 := hide ((unhide C0).ext hx1)
  have D1 := hide ((unhide C1).ext hx1)
  have D2 := hide ((unhide C2).ext hx1)
  have Z := hide ((unhide Y).trans hx1)
  clear C0 C1 C2 Y hx1
  go_wp2_with fail
  refine (cross1_any 0 1 (by omega) (by omega) a b _ _ _ (unhide D0) (unhide D1) Ia Ib).mono ?_
  rintro e w3 ⟨rfl, hx1⟩
  have R := hide (And.intro ((unhide D2).ext hx1) ((unhide Z).trans hx1))
  clear D0 D1 D2 Z hx1
  obtain ⟨r0, r1, r2, r3⟩ := Blk.vec4 (a := nul) (unhide R).1
  obtain ⟨f0, f1, f2, f3⟩ := (unhide R).1.free4
  go_wp2
  obtain ⟨q0, q1, q2, q3⟩ := lay4 (a := nul) (unhide R).1 (.int .i32 (crossI a b 1 2)) (.int .i32 (crossI a b 2 0)) (.int .i32 (crossI a b 0 1)) (.int .i32 0)
  refine bodyPost_ret (v := .agg #[.int .i32 (crossI a b 1 2), .int .i32 (crossI a b 2 0), .int .i32 (crossI a b 0 1), .int .i32 0]) (by simp [results, Tryz.results110, go_sem, q0, q1, q2, q3]) rfl ⟨rfl, ?_⟩
  exact ext_set4 (unhide R).2 (by omega)

/-- The sum of the first k numbers of p, from the first one on. -/
def sumI (p : Nat → Int) : Nat → Int
  | 0 => 0
  | k + 1 => addI (sumI p k) (p k)

theorem sumI_i32 (p : Nat → Int) : ∀ k, I32 (sumI p k)
  | 0 => by unfold sumI I32; omega
  | k + 1 => addI_i32 _ _

theorem index4 (p : Nat → Int) (k : Nat) (hk : k < 4) (w : World) : (Instr.index 28 (.agg #[.int .i32 (p 0), .int .i32 (p 1), .int .i32 (p 2), .int .i32 (p 3)]) (.int .i64 k)).run Tryz.prog w = .ok (.int .i32 (p k)) w := by
  rcases (by omega : k = 0 ∨ k = 1 ∨ k = 2 ∨ k = 3) with rfl | rfl | rfl | rfl
  · have h : ∀ x0 x1 x2 x3 : Value, (Instr.index 28 (.agg #[x0, x1, x2, x3]) (.int .i64 0)).run Tryz.prog w = .ok x0 w := fun _ _ _ _ => by kernel_rfl
    exact h _ _ _ _
  · have h : ∀ x0 x1 x2 x3 : Value, (Instr.index 28 (.agg #[x0, x1, x2, x3]) (.int .i64 1)).run Tryz.prog w = .ok x1 w := fun _ _ _ _ => by kernel_rfl
    exact h _ _ _ _
  · have h : ∀ x0 x1 x2 x3 : Value, (Instr.index 28 (.agg #[x0, x1, x2, x3]) (.int .i64 2)).run Tryz.prog w = .ok x2 w := fun _ _ _ _ => by kernel_rfl
    exact h _ _ _ _
  · have h : ∀ x0 x1 x2 x3 : Value, (Instr.index 28 (.agg #[x0, x1, x2, x3]) (.int .i64 3)).run Tryz.prog w = .ok x3 w := fun _ _ _ _ => by kernel_rfl
    exact h _ _ _ _

set_option maxHeartbeats 1000000 in
theorem dot_any (n : Int) (a b : Nat → Int) (w : World) (h1 : 1 ≤ n) (h4 : n ≤ 4) (Ia : ∀ i, I32 (a i)) (Ib : ∀ i, I32 (b i)) :
    Calls Tryz.prog 108 #[.int .i64 n, .agg #[.int .i32 (a 0), .int .i32 (a 1), .int .i32 (a 2), .int .i32 (a 3)], .agg #[.int .i32 (b 0), .int .i32 (b 1), .int .i32 (b 2), .int .i32 (b 3)]] w fun e w' => e = .returned (.tuple #[.int .i32 (sumI (cut n (fun i => mulI (a i) (b i))) 4), .int .i64 0]) ∧ Ext w w' := by
  have HP : Hid (∀ i, I32 (cut n (fun i => mulI (a i) (b i)) i)) := cut_i32 (fun i => mulI_i32 _ _)
  generalize hp : cut n (fun i => mulI (a i) (b i)) = p at *
  have HE := hide hp
  clear hp
  go_enter Tryz.func108, Tryz.ntmps108
  go_wp2_with fail
  refine (two_any 2 n a b _ (by omega) (by omega) h1 h4 Ia Ib).mono ?_
  rintro e w1 ⟨rfl, hx⟩
  have X := hide ((((Ext.refl w).alloc _).alloc _).trans hx)
  clear hx
  rw [show (fun i => twoI 2 (a i) (b i)) = (fun i => mulI (a i) (b i)) from rfl, unhide HE]
  go_wp2
  go_loopw [10, 24] (fun s i wr => ∃ k : Nat, k ≤ 4 ∧ i = .int .i64 k ∧ s = .int .i32 (sumI p k) ∧ Ext w wr) (fun _ i _ => 4 - (intOf i).toNat)
  case atStart => exact ⟨0, by omega, rfl, rfl, (unhide X).alloc _⟩
  case round =>
    obtain ⟨k, hk, rfl, rfl, hx⟩ := hrel
    have X2 := hide hx
    clear hx X
    by_cases hlt : k < 4
    · have hi4 : (k : Int) < 4 := by omega
      have hix := index4 p k hlt
      go_wp2_with fail
      refine (add_any _ _ _ (sumI_i32 p k) (unhide HP k)).mono ?_
      rintro e w1 ⟨rfl, rfl⟩
      go_wp2
      go_roundw
      case rel => exact ⟨k + 1, by omega, by go_num, rfl, unhide X2⟩
      case measure => simp [intOf]; omega
    · obtain rfl : k = 4 := by omega
      go_wp2
      go_ret2
      exact ⟨rfl, unhide X2⟩

theorem dot_off (n : Int) (a b : Nat → Int) (w : World) (h : n < 1 ∨ 4 < n) :
    Calls Tryz.prog 108 #[.int .i64 n, .agg #[.int .i32 (a 0), .int .i32 (a 1), .int .i32 (a 2), .int .i32 (a 3)], .agg #[.int .i32 (b 0), .int .i32 (b 1), .int .i32 (b 2), .int .i32 (b 3)]] w fun e w' => e = .returned (.tuple #[.int .i32 0, .int .i64 2]) ∧ Ext w w' := by
  go_enter Tryz.func108, Tryz.ntmps108
  go_wp2_with fail
  refine (two_off 2 n a b _ (by omega) (by omega) h).mono ?_
  rintro e w1 ⟨rfl, hx⟩
  have X := hide ((((Ext.refl w).alloc _).alloc _).trans hx)
  clear hx
  go_wp2
  go_ret2
  exact ⟨rfl, (unhide X).alloc _⟩

/-- The vector of four numbers. -/
def v4 (x0 x1 x2 x3 : Int) (i : Nat) : Int := if i = 0 then x0 else if i = 1 then x1 else if i = 2 then x2 else if i = 3 then x3 else 0

theorem v4_i32 {x0 x1 x2 x3 : Int} (h0 : I32 x0) (h1 : I32 x1) (h2 : I32 x2) (h3 : I32 x3) (i : Nat) : I32 (v4 x0 x1 x2 x3 i) := by
  unfold v4
  split; exact h0
  split; exact h1
  split; exact h2
  split; exact h3
  unfold I32; omega

/-- What '==' says of two vectors. -/
theorem eqV (x0 x1 x2 x3 y0 y1 y2 y3 : Int) (w : World) : (Op.equalIn 10000 28 (.agg #[.int .i32 x0, .int .i32 x1, .int .i32 x2, .int .i32 x3]) (.agg #[.int .i32 y0, .int .i32 y1, .int .i32 y2, .int .i32 y3])).run Tryz.prog w = .ok (x0 == y0 && (x1 == y1 && (x2 == y2 && x3 == y3))) w := by
  have u3 := Tryz.underlying26
  have a3 := Tryz.isAgg26
  have z3 := Tryz.sizeOf26
  rw [show (10000 : Nat) = 9999 + 1 from rfl, Op.equalIn]
  simp only [Sem.run_bind, run_underlying Tryz.underlying28, Result.andThen_ok]
  simp only [Std.Legacy.Range.forIn_eq_forIn_range', Std.Legacy.Range.size, Nat.sub_zero, Nat.add_sub_cancel, Nat.div_one, List.range'_succ, List.range'_zero, List.forIn_cons, List.forIn_nil]
  go_simp
  by_cases h1 : x0 = y0 <;> by_cases h2 : x1 = y1 <;> by_cases h3 : x2 = y2 <;> by_cases h4 : x3 = y3 <;> simp [h1, h2, h3, h4]

end Go.Proofs.YtglfhmlcmffoaaaGreat

/-
  The walks of maths' lengths. What the dump lacks is left out.
-/
namespace Go.Proofs.YtglfhmlcmffoaaaGreat
open Go.RowKit
set_option linter.unusedVariables false
set_option linter.unusedSimpArgs false

/-- How many numbers are meant by n. -/
def cntM (n : Int) : Int := min (max n 0) 4
theorem cntM_bounds (n : Int) : 0 ≤ cntM n ∧ cntM n ≤ 4 := by unfold cntM; omega

theorem counted_any (n : Int) (w : World) :
    Calls Tryz.prog 148 #[.int .i64 n] w fun e w' => e = .returned (.int .i64 (cntM n)) ∧ w' = w := by
  go_enter Tryz.func148, Tryz.ntmps148
  go_wp2
  all_goals go_ret
  all_goals refine ⟨?_, rfl⟩
  all_goals simp [cntM]
  all_goals omega

theorem sq_i32 {x : Int} (h : I32 x) : 0 ≤ x * x ∧ x * x ≤ 4611686018427387904 := by
  have h1 := mul_i32 h h
  have h2 : 0 ≤ x * x := by
    rcases Int.le_total 0 x with h | h
    · exact Int.mul_nonneg h h
    · exact Int.mul_nonneg_of_nonpos_of_nonpos h h
  omega

theorem len1_any (x s : Int) (b : Nat) (w : World) (hx : I32 x) (hs0 : 0 ≤ s) (hs1 : s ≤ 4611686018427387904) (hc : w.cell? ⟨b, 0, none⟩ = some (.int .u64 s)) (hf : w.frozen? ⟨b, 0, none⟩ = false) :
    Calls Tryz.prog 147 #[.int .i32 x, .pointer (some ⟨b, 0, none⟩)] w fun e w' => e = .returned (.tuple #[]) ∧ w' = w.setCell ⟨b, 0, none⟩ (.int .u64 (min (s + x * x) 4611686018427387904)) := by
  have hq := sq_i32 hx
  unfold I32 at hx
  go_enter Tryz.func147, Tryz.ntmps147
  go_wp2
  all_goals go_end0
  all_goals first
    | exact ⟨rfl, rfl⟩
    | exact ⟨rfl, by rw [show min (s + x * x) 4611686018427387904 = 4611686018427387904 by omega]⟩
    | exact ⟨rfl, by rw [show min (s + x * x) 4611686018427387904 = s + x * x by omega]⟩

/-- The sum of the squares of the first k numbers, held at 2^62. -/
def lsI (a : Nat → Int) : Nat → Int
  | 0 => 0
  | k + 1 => min (lsI a k + a k * a k) 4611686018427387904
theorem lsI_bounds {a : Nat → Int} (h : ∀ i, I32 (a i)) : ∀ k, 0 ≤ lsI a k ∧ lsI a k ≤ 4611686018427387904
  | 0 => by simp [lsI]
  | k + 1 => by
    have ih := lsI_bounds h k
    have hq := sq_i32 (h k)
    unfold lsI
    omega
/-- The raw of how long the vector of a's first n numbers is. -/
def lengthI (a : Nat → Int) (n : Int) : Int := rawI (rootI (lsI a (cntM n).toNat))
theorem lengthI_i32 (a : Nat → Int) (n : Int) : I32 (lengthI a n) := rawI_i32 _

set_option maxHeartbeats 1000000 in
theorem length_any (a : Nat → Int) (n : Int) (w : World) (Ia : ∀ i, I32 (a i)) :
    Calls Tryz.prog 109 #[.agg #[.int .i32 (a 0), .int .i32 (a 1), .int .i32 (a 2), .int .i32 (a 3)], .int .i64 n] w fun e w' => e = .returned (.int .i32 (lengthI a n)) ∧ Ext w w' := by
  have HI := hide Ia
  clear Ia
  have hcb := cntM_bounds n
  have HL : Hid (lengthI a n = rawI (rootI (lsI a (cntM n).toNat))) := rfl
  have B0 : Hid (Blk ((w.alloc (.cells #[.int .i32 (a 0), .int .i32 (a 1), .int .i32 (a 2), .int .i32 (a 3)] 28)).alloc (.cells #[.int .u64 0] 113)) w.heap.size #[.int .i32 (a 0), .int .i32 (a 1), .int .i32 (a 2), .int .i32 (a 3)] 28) := (Blk.new w _ _).alloc _
  have B1 : Hid (Blk ((w.alloc (.cells #[.int .i32 (a 0), .int .i32 (a 1), .int .i32 (a 2), .int .i32 (a 3)] 28)).alloc (.cells #[.int .u64 0] 113)) (w.heap.size + 1) #[.int .u64 0] 113) := Blk.at (by simp)
  go_enter Tryz.func109, Tryz.ntmps109
  go_wp2_with fail
  refine (counted_any _ _).mono ?_
  rintro e w1 ⟨rfl, rfl⟩
  obtain ⟨c, hc⟩ : ∃ c : Nat, cntM n = (c : Int) := ⟨(cntM n).toNat, by omega⟩
  rw [hc] at HL hcb ⊢
  clear hc
  have hc4 : c ≤ 4 := by omega
  go_wp2
  go_loopw [14] (fun i wr => ∃ k : Nat, k ≤ c ∧ i = .int .i64 k ∧ Blk wr w.heap.size #[.int .i32 (a 0), .int .i32 (a 1), .int .i32 (a 2), .int .i32 (a 3)] 28 ∧ Blk wr (w.heap.size + 1) #[.int .u64 (lsI a k)] 113 ∧ Ext w wr) (fun i _ => c - (intOf i).toNat)
  case atStart => exact ⟨0, by omega, rfl, unhide B0, unhide B1, ((Ext.refl w).alloc _).alloc _⟩
  case round =>
    obtain ⟨k, hk, rfl, hb0, hb1, hx⟩ := hrel
    clear B0 B1
    have D := hide (And.intro hb0 (And.intro hb1 hx))
    clear hb0 hb1 hx
    by_cases hlt : k < c
    · have hkc : (k : Int) < (c : Int) := by omega
      have hk4 : k < 4 := by omega
      have c0 := (unhide D).1.vec k hk4
      have hl := lsI_bounds (unhide HI) k
      go_wp2_with fail
      refine (len1_any _ (lsI a k) _ _ (unhide HI k) hl.1 hl.2 ((unhide D).2.1.cell rfl) ((unhide D).2.1.free 0)).mono ?_
      rintro e w1 ⟨rfl, rfl⟩
      go_wp2
      go_roundw
      case rel =>
        refine ⟨k + 1, by omega, by go_num, (unhide D).1.other 0 _ (by omega), ?_, ext_set (unhide D).2.2 (by omega)⟩
        exact (unhide D).2.1.set 0 _
      case measure => simp [intOf]; omega
    · obtain rfl : k = c := by omega
      have c0 := (unhide D).2.1.cell (i := 0) rfl
      have hl := lsI_bounds (unhide HI) k
      rw [show ((k : Int)).toNat = k by omega] at HL
      go_wp2_with fail
      refine (ofRoot_any _ _ hl.1 (by omega)).mono ?_
      rintro e w1 ⟨rfl, rfl⟩
      go_wp2
      go_ret
      exact ⟨by rw [unhide HL]; rfl, (unhide D).2.2⟩

/-- The numbers of a vector over its length. -/
def unitI (a : Nat → Int) (n : Int) : Nat → Int := cut (cntM n) (fun i => divI (a i) (lengthI a n))
theorem unitI_i32 (a : Nat → Int) (n : Int) (i : Nat) : I32 (unitI a n i) := cut_i32 (fun i => divI_i32 _ _) i
theorem cntI_cnt (n : Int) : cntM (cntM n) = cntM n := by unfold cntM; omega
theorem lengthI_cnt (a : Nat → Int) (n : Int) : lengthI a (cntM n) = lengthI a n := by unfold lengthI; rw [cntI_cnt]

set_option maxHeartbeats 1000000 in
theorem normalize_any (a : Nat → Int) (n : Int) (w : World) (Ia : ∀ i, I32 (a i)) :
    Calls Tryz.prog 111 #[.agg #[.int .i32 (a 0), .int .i32 (a 1), .int .i32 (a 2), .int .i32 (a 3)], .int .i64 n] w fun e w' => e = .returned (.agg #[.int .i32 (unitI a n 0), .int .i32 (unitI a n 1), .int .i32 (unitI a n 2), .int .i32 (unitI a n 3)]) ∧ Ext w w' := by
  have HI := hide Ia
  clear Ia
  have hcb := cntM_bounds n
  have HU : Hid (unitI a n = cut (cntM n) (fun i => divI (a i) (lengthI a n))) := rfl
  have HL := hide (lengthI_cnt a n)
  have B0 : Hid (Blk ((w.alloc (.cells #[.int .i32 (a 0), .int .i32 (a 1), .int .i32 (a 2), .int .i32 (a 3)] 28)).alloc (.cells #[.int .i32 0, .int .i32 0, .int .i32 0, .int .i32 0] 28)) w.heap.size #[.int .i32 (a 0), .int .i32 (a 1), .int .i32 (a 2), .int .i32 (a 3)] 28) := (Blk.new w _ _).alloc _
  have B1 : Hid (Blk ((w.alloc (.cells #[.int .i32 (a 0), .int .i32 (a 1), .int .i32 (a 2), .int .i32 (a 3)] 28)).alloc (.cells #[.int .i32 0, .int .i32 0, .int .i32 0, .int .i32 0] 28)) (w.heap.size + 1) #[.int .i32 (nul 0), .int .i32 (nul 1), .int .i32 (nul 2), .int .i32 (nul 3)] 28) := Blk.at (by simp)
  have X : Hid (Ext w ((w.alloc (.cells #[.int .i32 (a 0), .int .i32 (a 1), .int .i32 (a 2), .int .i32 (a 3)] 28)).alloc (.cells #[.int .i32 0, .int .i32 0, .int .i32 0, .int .i32 0] 28))) := ((Ext.refl w).alloc _).alloc _
  go_enter Tryz.func111, Tryz.ntmps111
  go_wp2_with fail
  refine (counted_any _ _).mono ?_
  rintro e w1 ⟨rfl, rfl⟩
  generalize hce : cntM n = c at *
  have HC := hide hce
  clear hce
  obtain ⟨r0, r1, r2, r3⟩ := Blk.vec4 (a := nul) (unhide B1)
  obtain ⟨f0, f1, f2, f3⟩ := (unhide B1).free4
  by_cases h0 : c = 0
  · subst h0
    have HZ : Hid (unitI a n = nul) := by
      show _ = _
      rw [unhide HU]
      funext i
      simp [cut, nul]
      omega
    go_wp2
    refine bodyPost_ret (v := .agg #[.int .i32 0, .int .i32 0, .int .i32 0, .int .i32 0]) (by simp [results, Tryz.results111, go_sem, r0, r1, r2, r3, nul]) rfl ⟨by rw [unhide HZ]; rfl, ?_⟩
    exact unhide X
  · have d0 : (c == 0) = false := by simp; omega
    clear r0 r1 r2 r3 f0 f1 f2 f3
    obtain ⟨p0, p1, p2, p3⟩ := (unhide B0).vec4
    go_wp2_with fail
    refine (length_any a c _ (unhide HI)).mono ?_
    rintro e w2 ⟨rfl, hx⟩
    rw [unhide HL]
    have C0 := hide ((unhide B0).ext hx)
    have C1 := hide ((unhide B1).ext hx)
    have Y := hide ((unhide X).trans hx)
    clear B0 B1 X hx p0 p1 p2 p3
    generalize hle : lengthI a n = L at *
    have HLi := hide (hle ▸ lengthI_i32 a n : I32 L)
    have HLE := hide hle
    clear hle
    go_wp2_with fail
    refine (all_any c L _ (by omega) (by omega)).mono ?_
    rintro e w3 ⟨rfl, hx⟩
    have D0 := hide (((unhide C0).ext hx).alloc (.cells #[.int .i32 (cut c (fun _ => L) 0), .int .i32 (cut c (fun _ => L) 1), .int .i32 (cut c (fun _ => L) 2), .int .i32 (cut c (fun _ => L) 3)] 28))
    have D1 := hide (((unhide C1).ext hx).alloc (.cells #[.int .i32 (cut c (fun _ => L) 0), .int .i32 (cut c (fun _ => L) 1), .int .i32 (cut c (fun _ => L) 2), .int .i32 (cut c (fun _ => L) 3)] 28))
    have D2 := hide (Blk.at (w := w3) (cs := #[.int .i32 (cut c (fun _ => L) 0), .int .i32 (cut c (fun _ => L) 1), .int .i32 (cut c (fun _ => L) 2), .int .i32 (cut c (fun _ => L) 3)]) (t := 28) rfl)
    have Z := hide (((unhide Y).trans hx).alloc (.cells #[.int .i32 (cut c (fun _ => L) 0), .int .i32 (cut c (fun _ => L) 1), .int .i32 (cut c (fun _ => L) 2), .int .i32 (cut c (fun _ => L) 3)] 28))
    clear C0 C1 Y hx
    obtain ⟨p0, p1, p2, p3⟩ := (unhide D0).vec4
    obtain ⟨q0, q1, q2, q3⟩ := (unhide D2).vec4
    have HK : Hid (∀ i, I32 (cut c (fun _ => L) i)) := cut_i32 (fun _ => unhide HLi)
    have HV : Hid (cut c (fun i => twoI 3 (a i) (cut c (fun _ => L) i)) = unitI a n) := by
      show _ = _
      rw [unhide HU]
      exact cut_congr fun i hi => by simp [cut, hi, twoI]
    go_wp2_with fail
    refine (two_any 3 c a (cut c (fun _ => L)) _ (by omega) (by omega) (by omega) (by omega) (unhide HI) (unhide HK)).mono ?_
    rintro e w4 ⟨rfl, hx⟩
    rw [unhide HV]
    clear p0 p1 p2 p3 q0 q1 q2 q3
    generalize hue : unitI a n = u at *
    have HUE := hide hue
    clear hue
    have E1 := hide (((unhide D1).ext hx).alloc (.cells #[.int .i32 (u 0), .int .i32 (u 1), .int .i32 (u 2), .int .i32 (u 3)] 28))
    have E2 := hide (Blk.at (w := w4) (cs := #[.int .i32 (u 0), .int .i32 (u 1), .int .i32 (u 2), .int .i32 (u 3)]) (t := 28) rfl)
    have Z2 := hide (((unhide Z).trans hx).alloc (.cells #[.int .i32 (u 0), .int .i32 (u 1), .int .i32 (u 2), .int .i32 (u 3)] 28))
    clear D0 D1 D2 Z hx
    obtain ⟨p0, p1, p2, p3⟩ := (unhide E2).vec4
    obtain ⟨r0, r1, r2, r3⟩ := Blk.vec4 (a := nul) (unhide E1)
    obtain ⟨f0, f1, f2, f3⟩ := (unhide E1).free4
    go_wp2
    obtain ⟨q0, q1, q2, q3⟩ := lay4 (a := nul) (unhide E1) (.int .i32 (u 0)) (.int .i32 (u 1)) (.int .i32 (u 2)) (.int .i32 (u 3))
    refine bodyPost_ret (v := .agg #[.int .i32 (u 0), .int .i32 (u 1), .int .i32 (u 2), .int .i32 (u 3)]) (by simp [results, Tryz.results111, go_sem, q0, q1, q2, q3]) rfl ⟨by rw [unhide HUE], ?_⟩
    exact ext_set4 (b := w.heap.size + 1) (unhide Z2) (by omega)

end Go.Proofs.YtglfhmlcmffoaaaGreat

/-
  The machine of registers: what functions do to floats (byComponent, ofFloats). Written by mkvm.py.
-/
namespace Go.Proofs.YtglfhmlcmffoaaaGreat
open Go.RowKit
set_option linter.unusedVariables false
set_option linter.unusedSimpArgs false

/-- What a function does to floats by component. -/
def bcI (fn n : Int) (a b : Nat → Int) : Nat → Int :=
  match ofTwoN fn with
  | some op => cut n (fun i => twoI op (a i) (b i))
  | none => match ofOneN fn with
    | some op => cut n (fun i => oneI op (a i))
    | none => mtI fn n a b

set_option maxRecDepth 10000 in
set_option maxHeartbeats 4000000 in
theorem byComponent_any (fn n : Int) (a b : Nat → Int) (w : World) (h1 : 1 ≤ n) (h4 : n ≤ 4) (Ia : ∀ i, I32 (a i)) (Ib : ∀ i, I32 (b i)) :
    Calls Tryz.prog 112 #[.int .i64 fn, .int .i64 n, .agg #[.int .i32 (a 0), .int .i32 (a 1), .int .i32 (a 2), .int .i32 (a 3)], .agg #[.int .i32 (b 0), .int .i32 (b 1), .int .i32 (b 2), .int .i32 (b 3)]] w fun e w' => e = .returned (.agg #[.int .i32 (bcI fn n a b 0), .int .i32 (bcI fn n a b 1), .int .i32 (bcI fn n a b 2), .int .i32 (bcI fn n a b 3)]) ∧ Ext w w' := by
  have HI := hide (And.intro Ia Ib)
  clear Ia Ib
  have HB := hide (show Blk (((w.alloc (.cells #[.int .i32 (a 0), .int .i32 (a 1), .int .i32 (a 2), .int .i32 (a 3)] 28)).alloc (.cells #[.int .i32 (b 0), .int .i32 (b 1), .int .i32 (b 2), .int .i32 (b 3)] 28)).alloc (.cells #[.int .i32 (nul 0), .int .i32 (nul 1), .int .i32 (nul 2), .int .i32 (nul 3)] 28)) (w.heap.size + 1 + 1) #[.int .i32 (nul 0), .int .i32 (nul 1), .int .i32 (nul 2), .int .i32 (nul 3)] 28 ∧ Ext w (((w.alloc (.cells #[.int .i32 (a 0), .int .i32 (a 1), .int .i32 (a 2), .int .i32 (a 3)] 28)).alloc (.cells #[.int .i32 (b 0), .int .i32 (b 1), .int .i32 (b 2), .int .i32 (b 3)] 28)).alloc (.cells #[.int .i32 (nul 0), .int .i32 (nul 1), .int .i32 (nul 2), .int .i32 (nul 3)] 28)) from ⟨Blk.at (by simp), ((((Ext.refl w).alloc _).alloc _).alloc _)⟩)
  cases h2 : ofTwoN fn with
  | some op =>
    have E : Hid (bcI fn n a b = cut n (fun i => twoI op (a i) (b i))) := by unfold bcI; rw [h2]; trivial
    have hop := ofTwoN_in h2
    have H2 := hide h2
    clear h2
    go_enter Tryz.func112, Tryz.ntmps112
    go_wp2_with (first
      | (go_at_call 152; refine (ofTwo_some _ op _ (unhide H2)).mono ?_; rintro e w1 ⟨rfl, rfl⟩)
      | (go_at_call 146; refine (two_any op n a b _ hop.1 hop.2 h1 h4 (unhide HI).1 (unhide HI).2).mono ?_; rintro e w1 ⟨rfl, hx⟩; have R := hide (And.intro ((unhide HB).1.ext hx) ((unhide HB).2.trans hx)); clear hx HB; have R2 := hide (And.intro ((unhide R).1.alloc (.cells #[.int .i32 (cut n (fun i => twoI op (a i) (b i)) 0), .int .i32 (cut n (fun i => twoI op (a i) (b i)) 1), .int .i32 (cut n (fun i => twoI op (a i) (b i)) 2), .int .i32 (cut n (fun i => twoI op (a i) (b i)) 3)] 28)) ((unhide R).2.alloc (.cells #[.int .i32 (cut n (fun i => twoI op (a i) (b i)) 0), .int .i32 (cut n (fun i => twoI op (a i) (b i)) 1), .int .i32 (cut n (fun i => twoI op (a i) (b i)) 2), .int .i32 (cut n (fun i => twoI op (a i) (b i)) 3)] 28))); obtain ⟨r0, r1, r2, r3⟩ := (unhide R2).1.vec4; obtain ⟨f0, f1, f2, f3⟩ := (unhide R2).1.free4))
    obtain ⟨q0, q1, q2, q3⟩ := lay4 (unhide R2).1 (.int .i32 ((cut n (fun i => twoI op (a i) (b i))) 0)) (.int .i32 ((cut n (fun i => twoI op (a i) (b i))) 1)) (.int .i32 ((cut n (fun i => twoI op (a i) (b i))) 2)) (.int .i32 ((cut n (fun i => twoI op (a i) (b i))) 3))
    refine bodyPost_ret (v := .agg #[.int .i32 ((cut n (fun i => twoI op (a i) (b i))) 0), .int .i32 ((cut n (fun i => twoI op (a i) (b i))) 1), .int .i32 ((cut n (fun i => twoI op (a i) (b i))) 2), .int .i32 ((cut n (fun i => twoI op (a i) (b i))) 3)]) (by simp [results, Tryz.results112, go_sem, q0, q1, q2, q3]) rfl ⟨by rw [unhide E], ext_set4 (unhide R2).2 (by omega)⟩
  | none =>
    have H2 := hide h2
    cases h3 : ofOneN fn with
    | some op =>
      have E : Hid (bcI fn n a b = cut n (fun i => oneI op (a i))) := by unfold bcI; rw [h2, h3]; trivial
      have hop := ofOneN_in h3
      have H3 := hide h3
      clear h2 h3
      go_enter Tryz.func112, Tryz.ntmps112
      go_wp2_with (first
        | (go_at_call 152; refine (ofTwo_none _ _ (unhide H2)).mono ?_; rintro e w1 ⟨rfl, rfl⟩)
        | (go_at_call 153; refine (ofOne_some _ op _ (unhide H3)).mono ?_; rintro e w1 ⟨rfl, rfl⟩)
        | (go_at_call 154; refine (one_any op n a _ hop.1 hop.2 h1 h4 (unhide HI).1).mono ?_; rintro e w1 ⟨rfl, hx⟩; have R := hide (And.intro ((unhide HB).1.ext hx) ((unhide HB).2.trans hx)); clear hx HB; have R2 := hide (And.intro ((unhide R).1.alloc (.cells #[.int .i32 (cut n (fun i => oneI op (a i)) 0), .int .i32 (cut n (fun i => oneI op (a i)) 1), .int .i32 (cut n (fun i => oneI op (a i)) 2), .int .i32 (cut n (fun i => oneI op (a i)) 3)] 28)) ((unhide R).2.alloc (.cells #[.int .i32 (cut n (fun i => oneI op (a i)) 0), .int .i32 (cut n (fun i => oneI op (a i)) 1), .int .i32 (cut n (fun i => oneI op (a i)) 2), .int .i32 (cut n (fun i => oneI op (a i)) 3)] 28))); obtain ⟨r0, r1, r2, r3⟩ := (unhide R2).1.vec4; obtain ⟨f0, f1, f2, f3⟩ := (unhide R2).1.free4))
      obtain ⟨q0, q1, q2, q3⟩ := lay4 (unhide R2).1 (.int .i32 ((cut n (fun i => oneI op (a i))) 0)) (.int .i32 ((cut n (fun i => oneI op (a i))) 1)) (.int .i32 ((cut n (fun i => oneI op (a i))) 2)) (.int .i32 ((cut n (fun i => oneI op (a i))) 3))
      refine bodyPost_ret (v := .agg #[.int .i32 ((cut n (fun i => oneI op (a i))) 0), .int .i32 ((cut n (fun i => oneI op (a i))) 1), .int .i32 ((cut n (fun i => oneI op (a i))) 2), .int .i32 ((cut n (fun i => oneI op (a i))) 3)]) (by simp [results, Tryz.results112, go_sem, q0, q1, q2, q3]) rfl ⟨by rw [unhide E], ext_set4 (unhide R2).2 (by omega)⟩
    | none =>
      have E : Hid (bcI fn n a b = mtI fn n a b) := by unfold bcI; rw [h2, h3]; trivial
      have H3 := hide h3
      clear h2 h3
      go_enter Tryz.func112, Tryz.ntmps112
      go_wp2_with (first
        | (go_at_call 152; refine (ofTwo_none _ _ (unhide H2)).mono ?_; rintro e w1 ⟨rfl, rfl⟩)
        | (go_at_call 153; refine (ofOne_none _ _ (unhide H3)).mono ?_; rintro e w1 ⟨rfl, rfl⟩)
        | (go_at_call 155; refine (ofMaths_any fn n a b _ h1 h4 (unhide HI).1 (unhide HI).2).mono ?_; rintro e w1 ⟨rfl, hx⟩; have R := hide (And.intro ((unhide HB).1.ext hx) ((unhide HB).2.trans hx)); clear hx HB; obtain ⟨r0, r1, r2, r3⟩ := (unhide R).1.vec4; obtain ⟨f0, f1, f2, f3⟩ := (unhide R).1.free4))
      obtain ⟨q0, q1, q2, q3⟩ := lay4 (unhide R).1 (.int .i32 ((mtI fn n a b) 0)) (.int .i32 ((mtI fn n a b) 1)) (.int .i32 ((mtI fn n a b) 2)) (.int .i32 ((mtI fn n a b) 3))
      refine bodyPost_ret (v := .agg #[.int .i32 ((mtI fn n a b) 0), .int .i32 ((mtI fn n a b) 1), .int .i32 ((mtI fn n a b) 2), .int .i32 ((mtI fn n a b) 3)]) (by simp [results, Tryz.results112, go_sem, q0, q1, q2, q3]) rfl ⟨by rw [unhide E], ext_set4 (unhide R).2 (by omega)⟩

/-- A number alone. -/
def fstI (x : Int) : Nat → Int := fun i => if i = 0 then x else 0
def crsI (a b : Nat → Int) : Nat → Int := fun i => if i = 0 then crossI a b 1 2 else if i = 1 then crossI a b 2 0 else if i = 2 then crossI a b 0 1 else 0
/-- What a function does to floats. -/
def ofI (fn n : Int) (a b c : Nat → Int) : Nat → Int :=
  if fn = 17 then cut n (fun i => addI (a i) (mulI (subI (b i) (a i)) (c i)))
  else if fn = 18 then cut n (fun i => clampI (a i) (b i) (c i))
  else if fn = 19 then fstI (sumI (cut n (fun i => mulI (a i) (b i))) 4)
  else if fn = 20 then fstI (lengthI a n)
  else if fn = 21 then crsI a b
  else if fn = 11 then unitI a n
  else bcI fn n a b

set_option maxRecDepth 10000 in
set_option maxHeartbeats 8000000 in
theorem ofFloats_any (fn n : Int) (a b c : Nat → Int) (w : World) (h1 : 1 ≤ n) (h4 : n ≤ 4) (Ia : ∀ i, I32 (a i)) (Ib : ∀ i, I32 (b i)) (Ic : ∀ i, I32 (c i)) :
    Calls Tryz.prog 68 #[.int .i64 fn, .int .i64 n, .agg #[.int .i32 (a 0), .int .i32 (a 1), .int .i32 (a 2), .int .i32 (a 3)], .agg #[.int .i32 (b 0), .int .i32 (b 1), .int .i32 (b 2), .int .i32 (b 3)], .agg #[.int .i32 (c 0), .int .i32 (c 1), .int .i32 (c 2), .int .i32 (c 3)]] w fun e w' => e = .returned (.agg #[.int .i32 (ofI fn n a b c 0), .int .i32 (ofI fn n a b c 1), .int .i32 (ofI fn n a b c 2), .int .i32 (ofI fn n a b c 3)]) ∧ Ext w w' := by
  have HI := hide (And.intro Ia (And.intro Ib Ic))
  clear Ia Ib Ic
  have HB := hide (show Blk (((((w.alloc (.cells #[.int .i32 (a 0), .int .i32 (a 1), .int .i32 (a 2), .int .i32 (a 3)] 28)).alloc (.cells #[.int .i32 (b 0), .int .i32 (b 1), .int .i32 (b 2), .int .i32 (b 3)] 28)).alloc (.cells #[.int .i32 (c 0), .int .i32 (c 1), .int .i32 (c 2), .int .i32 (c 3)] 28)).alloc (.cells #[.int .i32 (nul 0), .int .i32 (nul 1), .int .i32 (nul 2), .int .i32 (nul 3)] 28)).alloc (.cells #[.int .i32 (nul 0), .int .i32 (nul 1), .int .i32 (nul 2), .int .i32 (nul 3)] 28)) (w.heap.size + 1 + 1 + 1) #[.int .i32 (nul 0), .int .i32 (nul 1), .int .i32 (nul 2), .int .i32 (nul 3)] 28 ∧ Blk (((((w.alloc (.cells #[.int .i32 (a 0), .int .i32 (a 1), .int .i32 (a 2), .int .i32 (a 3)] 28)).alloc (.cells #[.int .i32 (b 0), .int .i32 (b 1), .int .i32 (b 2), .int .i32 (b 3)] 28)).alloc (.cells #[.int .i32 (c 0), .int .i32 (c 1), .int .i32 (c 2), .int .i32 (c 3)] 28)).alloc (.cells #[.int .i32 (nul 0), .int .i32 (nul 1), .int .i32 (nul 2), .int .i32 (nul 3)] 28)).alloc (.cells #[.int .i32 (nul 0), .int .i32 (nul 1), .int .i32 (nul 2), .int .i32 (nul 3)] 28)) (w.heap.size + 1 + 1 + 1 + 1) #[.int .i32 (nul 0), .int .i32 (nul 1), .int .i32 (nul 2), .int .i32 (nul 3)] 28 ∧ Ext w (((((w.alloc (.cells #[.int .i32 (a 0), .int .i32 (a 1), .int .i32 (a 2), .int .i32 (a 3)] 28)).alloc (.cells #[.int .i32 (b 0), .int .i32 (b 1), .int .i32 (b 2), .int .i32 (b 3)] 28)).alloc (.cells #[.int .i32 (c 0), .int .i32 (c 1), .int .i32 (c 2), .int .i32 (c 3)] 28)).alloc (.cells #[.int .i32 (nul 0), .int .i32 (nul 1), .int .i32 (nul 2), .int .i32 (nul 3)] 28)).alloc (.cells #[.int .i32 (nul 0), .int .i32 (nul 1), .int .i32 (nul 2), .int .i32 (nul 3)] 28)) from ⟨(Blk.at (by simp)).alloc _, Blk.at (by simp), ((((((Ext.refl w).alloc _).alloc _).alloc _).alloc _).alloc _)⟩)
  by_cases e17 : fn = 17
  case pos =>
    subst e17
    have E : Hid (ofI 17 n a b c = cut n (fun i => addI (a i) (mulI (subI (b i) (a i)) (c i)))) := rfl
    go_enter Tryz.func68, Tryz.ntmps68
    go_wp2_with (go_at_call 106; refine (mixV_any n a b c _ h1 h4 (unhide HI).1 (unhide HI).2.1 (unhide HI).2.2).mono ?_; rintro e w1 ⟨rfl, hx⟩; have R := hide (And.intro ((unhide HB).1.ext hx) (And.intro ((unhide HB).2.1.ext hx) ((unhide HB).2.2.trans hx))); clear hx HB; obtain ⟨s0, s1, s2, s3⟩ := (unhide R).2.1.vec4; obtain ⟨g0, g1, g2, g3⟩ := (unhide R).2.1.free4; obtain ⟨r0, r1, r2, r3⟩ := (unhide R).1.vec4; obtain ⟨f0, f1, f2, f3⟩ := (unhide R).1.free4; obtain ⟨p0, p1, p2, p3⟩ := lay4 (unhide R).2.1 (.int .i32 (cut n (fun i => addI (a i) (mulI (subI (b i) (a i)) (c i))) 0)) (.int .i32 (cut n (fun i => addI (a i) (mulI (subI (b i) (a i)) (c i))) 1)) (.int .i32 (cut n (fun i => addI (a i) (mulI (subI (b i) (a i)) (c i))) 2)) (.int .i32 (cut n (fun i => addI (a i) (mulI (subI (b i) (a i)) (c i))) 3)))
    obtain ⟨q0, q1, q2, q3⟩ := lay4 (a := nul) (((((unhide R).1.other (r := (w.heap.size + 1 + 1 + 1 + 1)) 0 (.int .i32 (cut n (fun i => addI (a i) (mulI (subI (b i) (a i)) (c i))) 0)) (by omega)).other (r := (w.heap.size + 1 + 1 + 1 + 1)) 1 (.int .i32 (cut n (fun i => addI (a i) (mulI (subI (b i) (a i)) (c i))) 1)) (by omega)).other (r := (w.heap.size + 1 + 1 + 1 + 1)) 2 (.int .i32 (cut n (fun i => addI (a i) (mulI (subI (b i) (a i)) (c i))) 2)) (by omega)).other (r := (w.heap.size + 1 + 1 + 1 + 1)) 3 (.int .i32 (cut n (fun i => addI (a i) (mulI (subI (b i) (a i)) (c i))) 3)) (by omega)) (.int .i32 (cut n (fun i => addI (a i) (mulI (subI (b i) (a i)) (c i))) 0)) (.int .i32 (cut n (fun i => addI (a i) (mulI (subI (b i) (a i)) (c i))) 1)) (.int .i32 (cut n (fun i => addI (a i) (mulI (subI (b i) (a i)) (c i))) 2)) (.int .i32 (cut n (fun i => addI (a i) (mulI (subI (b i) (a i)) (c i))) 3))
    refine bodyPost_ret (v := .agg #[.int .i32 (cut n (fun i => addI (a i) (mulI (subI (b i) (a i)) (c i))) 0), .int .i32 (cut n (fun i => addI (a i) (mulI (subI (b i) (a i)) (c i))) 1), .int .i32 (cut n (fun i => addI (a i) (mulI (subI (b i) (a i)) (c i))) 2), .int .i32 (cut n (fun i => addI (a i) (mulI (subI (b i) (a i)) (c i))) 3)]) (by simp [results, Tryz.results68, go_sem, q0, q1, q2, q3]) rfl ⟨by rw [unhide E] <;> rfl, ext_set4 (ext_set4 (unhide R).2.2 (by omega)) (by omega)⟩
  case neg =>
  have d17 : (fn == 17) = false := by simp [e17]
  by_cases e18 : fn = 18
  case pos =>
    subst e18
    have E : Hid (ofI 18 n a b c = cut n (fun i => clampI (a i) (b i) (c i))) := rfl
    go_enter Tryz.func68, Tryz.ntmps68
    go_wp2_with (go_at_call 107; refine (clampV_any n a b c _ h1 h4).mono ?_; rintro e w1 ⟨rfl, hx⟩; have R := hide (And.intro ((unhide HB).1.ext hx) (And.intro ((unhide HB).2.1.ext hx) ((unhide HB).2.2.trans hx))); clear hx HB; obtain ⟨s0, s1, s2, s3⟩ := (unhide R).2.1.vec4; obtain ⟨g0, g1, g2, g3⟩ := (unhide R).2.1.free4; obtain ⟨r0, r1, r2, r3⟩ := (unhide R).1.vec4; obtain ⟨f0, f1, f2, f3⟩ := (unhide R).1.free4; obtain ⟨p0, p1, p2, p3⟩ := lay4 (unhide R).2.1 (.int .i32 (cut n (fun i => clampI (a i) (b i) (c i)) 0)) (.int .i32 (cut n (fun i => clampI (a i) (b i) (c i)) 1)) (.int .i32 (cut n (fun i => clampI (a i) (b i) (c i)) 2)) (.int .i32 (cut n (fun i => clampI (a i) (b i) (c i)) 3)))
    obtain ⟨q0, q1, q2, q3⟩ := lay4 (a := nul) (((((unhide R).1.other (r := (w.heap.size + 1 + 1 + 1 + 1)) 0 (.int .i32 (cut n (fun i => clampI (a i) (b i) (c i)) 0)) (by omega)).other (r := (w.heap.size + 1 + 1 + 1 + 1)) 1 (.int .i32 (cut n (fun i => clampI (a i) (b i) (c i)) 1)) (by omega)).other (r := (w.heap.size + 1 + 1 + 1 + 1)) 2 (.int .i32 (cut n (fun i => clampI (a i) (b i) (c i)) 2)) (by omega)).other (r := (w.heap.size + 1 + 1 + 1 + 1)) 3 (.int .i32 (cut n (fun i => clampI (a i) (b i) (c i)) 3)) (by omega)) (.int .i32 (cut n (fun i => clampI (a i) (b i) (c i)) 0)) (.int .i32 (cut n (fun i => clampI (a i) (b i) (c i)) 1)) (.int .i32 (cut n (fun i => clampI (a i) (b i) (c i)) 2)) (.int .i32 (cut n (fun i => clampI (a i) (b i) (c i)) 3))
    refine bodyPost_ret (v := .agg #[.int .i32 (cut n (fun i => clampI (a i) (b i) (c i)) 0), .int .i32 (cut n (fun i => clampI (a i) (b i) (c i)) 1), .int .i32 (cut n (fun i => clampI (a i) (b i) (c i)) 2), .int .i32 (cut n (fun i => clampI (a i) (b i) (c i)) 3)]) (by simp [results, Tryz.results68, go_sem, q0, q1, q2, q3]) rfl ⟨by rw [unhide E] <;> rfl, ext_set4 (ext_set4 (unhide R).2.2 (by omega)) (by omega)⟩
  case neg =>
  have d18 : (fn == 18) = false := by simp [e18]
  by_cases e19 : fn = 19
  case pos =>
    subst e19
    have E : Hid (ofI 19 n a b c = fstI (sumI (cut n (fun i => mulI (a i) (b i))) 4)) := rfl
    go_enter Tryz.func68, Tryz.ntmps68
    go_wp2_with (go_at_call 108; refine (dot_any n a b _ h1 h4 (unhide HI).1 (unhide HI).2.1).mono ?_; rintro e w1 ⟨rfl, hx⟩; have R := hide (And.intro ((unhide HB).1.ext hx) (And.intro ((unhide HB).2.1.ext hx) ((unhide HB).2.2.trans hx))); clear hx HB; obtain ⟨s0, s1, s2, s3⟩ := (unhide R).2.1.vec4; obtain ⟨g0, g1, g2, g3⟩ := (unhide R).2.1.free4; obtain ⟨r0, r1, r2, r3⟩ := (unhide R).1.vec4; obtain ⟨f0, f1, f2, f3⟩ := (unhide R).1.free4; have p0 : (w1.setCell ⟨(w.heap.size + 1 + 1 + 1 + 1), 0, none⟩ (.int .i32 (sumI (cut n (fun i => mulI (a i) (b i))) 4))).cell? ⟨(w.heap.size + 1 + 1 + 1 + 1), 0, none⟩ = some (.int .i32 (sumI (cut n (fun i => mulI (a i) (b i))) 4)) := ((unhide R).2.1.set 0 _).cell rfl)
    obtain ⟨q0, q1, q2, q3⟩ := lay4 (a := nul) ((unhide R).1.other (r := (w.heap.size + 1 + 1 + 1 + 1)) 0 (.int .i32 (sumI (cut n (fun i => mulI (a i) (b i))) 4)) (by omega)) (.int .i32 (sumI (cut n (fun i => mulI (a i) (b i))) 4)) (.int .i32 (nul 1)) (.int .i32 (nul 2)) (.int .i32 (nul 3))
    refine bodyPost_ret (v := .agg #[.int .i32 (sumI (cut n (fun i => mulI (a i) (b i))) 4), .int .i32 (nul 1), .int .i32 (nul 2), .int .i32 (nul 3)]) (by simp [results, Tryz.results68, go_sem, q0, q1, q2, q3]) rfl ⟨by rw [unhide E] <;> rfl, ext_set4 (ext_set (unhide R).2.2 (by omega)) (by omega)⟩
  case neg =>
  have d19 : (fn == 19) = false := by simp [e19]
  by_cases e20 : fn = 20
  case pos =>
    subst e20
    have E : Hid (ofI 20 n a b c = fstI (lengthI a n)) := rfl
    go_enter Tryz.func68, Tryz.ntmps68
    go_wp2_with (go_at_call 109; refine (length_any a n _ (unhide HI).1).mono ?_; rintro e w1 ⟨rfl, hx⟩; have R := hide (And.intro ((unhide HB).1.ext hx) (And.intro ((unhide HB).2.1.ext hx) ((unhide HB).2.2.trans hx))); clear hx HB; obtain ⟨s0, s1, s2, s3⟩ := (unhide R).2.1.vec4; obtain ⟨g0, g1, g2, g3⟩ := (unhide R).2.1.free4; obtain ⟨r0, r1, r2, r3⟩ := (unhide R).1.vec4; obtain ⟨f0, f1, f2, f3⟩ := (unhide R).1.free4; have p0 : (w1.setCell ⟨(w.heap.size + 1 + 1 + 1 + 1), 0, none⟩ (.int .i32 (lengthI a n))).cell? ⟨(w.heap.size + 1 + 1 + 1 + 1), 0, none⟩ = some (.int .i32 (lengthI a n)) := ((unhide R).2.1.set 0 _).cell rfl)
    obtain ⟨q0, q1, q2, q3⟩ := lay4 (a := nul) ((unhide R).1.other (r := (w.heap.size + 1 + 1 + 1 + 1)) 0 (.int .i32 (lengthI a n)) (by omega)) (.int .i32 (lengthI a n)) (.int .i32 (nul 1)) (.int .i32 (nul 2)) (.int .i32 (nul 3))
    refine bodyPost_ret (v := .agg #[.int .i32 (lengthI a n), .int .i32 (nul 1), .int .i32 (nul 2), .int .i32 (nul 3)]) (by simp [results, Tryz.results68, go_sem, q0, q1, q2, q3]) rfl ⟨by rw [unhide E] <;> rfl, ext_set4 (ext_set (unhide R).2.2 (by omega)) (by omega)⟩
  case neg =>
  have d20 : (fn == 20) = false := by simp [e20]
  by_cases e21 : fn = 21
  case pos =>
    subst e21
    have E : Hid (ofI 21 n a b c = crsI a b) := rfl
    go_enter Tryz.func68, Tryz.ntmps68
    go_wp2_with (go_at_call 110; refine (crossV_any a b _ (unhide HI).1 (unhide HI).2.1).mono ?_; rintro e w1 ⟨rfl, hx⟩; have R := hide (And.intro ((unhide HB).1.ext hx) (And.intro ((unhide HB).2.1.ext hx) ((unhide HB).2.2.trans hx))); clear hx HB; obtain ⟨s0, s1, s2, s3⟩ := (unhide R).2.1.vec4; obtain ⟨g0, g1, g2, g3⟩ := (unhide R).2.1.free4; obtain ⟨r0, r1, r2, r3⟩ := (unhide R).1.vec4; obtain ⟨f0, f1, f2, f3⟩ := (unhide R).1.free4; obtain ⟨p0, p1, p2, p3⟩ := lay4 (unhide R).2.1 (.int .i32 (crossI a b 1 2)) (.int .i32 (crossI a b 2 0)) (.int .i32 (crossI a b 0 1)) (.int .i32 0))
    obtain ⟨q0, q1, q2, q3⟩ := lay4 (a := nul) (((((unhide R).1.other (r := (w.heap.size + 1 + 1 + 1 + 1)) 0 (.int .i32 (crossI a b 1 2)) (by omega)).other (r := (w.heap.size + 1 + 1 + 1 + 1)) 1 (.int .i32 (crossI a b 2 0)) (by omega)).other (r := (w.heap.size + 1 + 1 + 1 + 1)) 2 (.int .i32 (crossI a b 0 1)) (by omega)).other (r := (w.heap.size + 1 + 1 + 1 + 1)) 3 (.int .i32 0) (by omega)) (.int .i32 (crossI a b 1 2)) (.int .i32 (crossI a b 2 0)) (.int .i32 (crossI a b 0 1)) (.int .i32 0)
    refine bodyPost_ret (v := .agg #[.int .i32 (crossI a b 1 2), .int .i32 (crossI a b 2 0), .int .i32 (crossI a b 0 1), .int .i32 0]) (by simp [results, Tryz.results68, go_sem, q0, q1, q2, q3]) rfl ⟨by rw [unhide E] <;> rfl, ext_set4 (ext_set4 (unhide R).2.2 (by omega)) (by omega)⟩
  case neg =>
  have d21 : (fn == 21) = false := by simp [e21]
  by_cases e11 : fn = 11
  case pos =>
    subst e11
    have E : Hid (ofI 11 n a b c = unitI a n) := rfl
    go_enter Tryz.func68, Tryz.ntmps68
    go_wp2_with (go_at_call 111; refine (normalize_any a n _ (unhide HI).1).mono ?_; rintro e w1 ⟨rfl, hx⟩; have R := hide (And.intro ((unhide HB).1.ext hx) (And.intro ((unhide HB).2.1.ext hx) ((unhide HB).2.2.trans hx))); clear hx HB; obtain ⟨s0, s1, s2, s3⟩ := (unhide R).2.1.vec4; obtain ⟨g0, g1, g2, g3⟩ := (unhide R).2.1.free4; obtain ⟨r0, r1, r2, r3⟩ := (unhide R).1.vec4; obtain ⟨f0, f1, f2, f3⟩ := (unhide R).1.free4; obtain ⟨p0, p1, p2, p3⟩ := lay4 (unhide R).2.1 (.int .i32 (unitI a n 0)) (.int .i32 (unitI a n 1)) (.int .i32 (unitI a n 2)) (.int .i32 (unitI a n 3)))
    obtain ⟨q0, q1, q2, q3⟩ := lay4 (a := nul) (((((unhide R).1.other (r := (w.heap.size + 1 + 1 + 1 + 1)) 0 (.int .i32 (unitI a n 0)) (by omega)).other (r := (w.heap.size + 1 + 1 + 1 + 1)) 1 (.int .i32 (unitI a n 1)) (by omega)).other (r := (w.heap.size + 1 + 1 + 1 + 1)) 2 (.int .i32 (unitI a n 2)) (by omega)).other (r := (w.heap.size + 1 + 1 + 1 + 1)) 3 (.int .i32 (unitI a n 3)) (by omega)) (.int .i32 (unitI a n 0)) (.int .i32 (unitI a n 1)) (.int .i32 (unitI a n 2)) (.int .i32 (unitI a n 3))
    refine bodyPost_ret (v := .agg #[.int .i32 (unitI a n 0), .int .i32 (unitI a n 1), .int .i32 (unitI a n 2), .int .i32 (unitI a n 3)]) (by simp [results, Tryz.results68, go_sem, q0, q1, q2, q3]) rfl ⟨by rw [unhide E] <;> rfl, ext_set4 (ext_set4 (unhide R).2.2 (by omega)) (by omega)⟩
  case neg =>
  have d11 : (fn == 11) = false := by simp [e11]
  have E : Hid (ofI fn n a b c = bcI fn n a b) := by unfold ofI; rw [if_neg e17, if_neg e18, if_neg e19, if_neg e20, if_neg e21, if_neg e11]; trivial
  clear e17 e18 e19 e20 e21 e11
  go_enter Tryz.func68, Tryz.ntmps68
  go_wp2_with (go_at_call 112; refine (byComponent_any fn n a b _ h1 h4 (unhide HI).1 (unhide HI).2.1).mono ?_; rintro e w1 ⟨rfl, hx⟩; have R := hide (And.intro ((unhide HB).1.ext hx) ((unhide HB).2.2.trans hx)); clear hx HB; obtain ⟨r0, r1, r2, r3⟩ := (unhide R).1.vec4; obtain ⟨f0, f1, f2, f3⟩ := (unhide R).1.free4)
  obtain ⟨q0, q1, q2, q3⟩ := lay4 (unhide R).1 (.int .i32 ((bcI fn n a b) 0)) (.int .i32 ((bcI fn n a b) 1)) (.int .i32 ((bcI fn n a b) 2)) (.int .i32 ((bcI fn n a b) 3))
  refine bodyPost_ret (v := .agg #[.int .i32 ((bcI fn n a b) 0), .int .i32 ((bcI fn n a b) 1), .int .i32 ((bcI fn n a b) 2), .int .i32 ((bcI fn n a b) 3)]) (by simp [results, Tryz.results68, go_sem, q0, q1, q2, q3]) rfl ⟨by rw [unhide E], ext_set4 (unhide R).2 (by omega)⟩
end Go.Proofs.YtglfhmlcmffoaaaGreat

/-
  Codes, plainly: instructions as sixteen numbers, which may be, what they read and write, what can be come to. Nothing here speaks of the program.
-/
namespace Go.Proofs.YtglfhmlcmffoaaaGreat

/-- A code; an instruction is sixteen numbers: Op, Fn, Base, N, Dst, A, B, C, four of Imm, four of Places. -/
structure Cod where
  stage : Int
  regs : Int
  attr : Int
  unif : Int
  vary : Int
  ins : List (Nat → Int)

def inB (x n : Int) : Bool := decide (0 ≤ x) && decide (x < n)
def fargs (f : Int) : Nat := if (12 ≤ f ∧ f ≤ 16) ∨ f = 19 ∨ f = 21 then 2 else if f = 17 ∨ f = 18 then 3 else 1
/-- How many arguments a function takes of a base. -/
def argsP (f b : Int) : Nat :=
  if 1 ≤ f ∧ f ≤ 21 then (if b = 1 then fargs f else 0)
  else if f = 28 then (if b = 1 ∨ b = 2 then 1 else 0)
  else if 24 ≤ f ∧ f ≤ 32 then (if b = 1 ∨ b = 2 then 2 else 0)
  else if f = 33 ∨ f = 34 then (if b = 1 ∨ b = 2 ∨ b = 3 then 2 else 0)
  else if f = 35 then (if b = 3 then 1 else 0)
  else 0
theorem fargs_le (f : Int) : fargs f ≤ 3 := by unfold fargs; repeat' split
                                               all_goals omega
theorem argsP_le (f b : Int) : argsP f b ≤ 3 := by
  have := fargs_le f
  unfold argsP
  repeat' split
  all_goals omega
/-- The registers that an instruction reads. -/
def readsP (I : Nat → Int) : List Int :=
  if I 0 = 2 ∨ I 0 = 6 ∨ I 0 = 8 then [I 5]
  else if I 0 = 4 ∨ I 0 = 11 then [I 6]
  else if I 0 = 5 then [I 5, I 6, I 7].take (argsP (I 1) (I 2))
  else if I 0 = 7 then [I 5, I 4]
  else if I 0 = 9 then [I 5, I 6]
  else []
def wrB (o : Int) : Bool := decide (o = 1 ∨ o = 2 ∨ o = 3 ∨ o = 5 ∨ o = 6 ∨ o = 7 ∨ o = 8 ∨ o = 9)
/-- The register that an instruction writes. -/
def writI (I : Nat → Int) : Int := if wrB (I 0) then I 4 else 0
/-- Which of the sixteen numbers count. -/
def keeps (I : Nat → Int) : Nat → Bool
  | 0 => true
  | 1 => decide (I 0 = 3 ∨ I 0 = 4 ∨ I 0 = 5 ∨ I 0 = 8)
  | 2 => decide (I 0 = 5 ∨ I 0 = 8)
  | 3 => decide (I 0 = 5 ∨ I 0 = 6 ∨ I 0 = 7 ∨ I 0 = 8)
  | 4 => wrB (I 0)
  | 5 => decide (I 0 = 2 ∨ I 0 = 3 ∨ I 0 = 4 ∨ I 0 = 6 ∨ I 0 = 7 ∨ I 0 = 8 ∨ I 0 = 9 ∨ I 0 = 10 ∨ I 0 = 11) || (decide (I 0 = 5) && decide (1 ≤ argsP (I 1) (I 2)))
  | 6 => decide (I 0 = 4 ∨ I 0 = 9 ∨ I 0 = 11) || (decide (I 0 = 5) && decide (2 ≤ argsP (I 1) (I 2)))
  | 7 => decide (I 0 = 5) && decide (3 ≤ argsP (I 1) (I 2))
  | 8 => decide (I 0 = 1)
  | 9 => decide (I 0 = 1)
  | 10 => decide (I 0 = 1)
  | 11 => decide (I 0 = 1)
  | 12 => decide (I 0 = 6 ∨ I 0 = 7) && decide (0 < I 3)
  | 13 => decide (I 0 = 6 ∨ I 0 = 7) && decide (1 < I 3)
  | 14 => decide (I 0 = 6 ∨ I 0 = 7) && decide (2 < I 3)
  | 15 => decide (I 0 = 6 ∨ I 0 = 7) && decide (3 < I 3)
  | _ => false
def justP (I : Nat → Int) (k : Nat) : Int := if keeps I k then I k else 0
/-- Sixteen numbers, the same. -/
def sameI (I J : Nat → Int) : Bool := I 0 == J 0 && (I 1 == J 1 && (I 2 == J 2 && (I 3 == J 3 && (I 4 == J 4 && (I 5 == J 5 && (I 6 == J 6 && (I 7 == J 7 && (I 8 == J 8 && (I 9 == J 9 && (I 10 == J 10 && (I 11 == J 11 && (I 12 == J 12 && (I 13 == J 13 && (I 14 == J 14 && I 15 == J 15))))))))))))))
def baseB (b : Int) : Bool := b == 1 || (b == 2 || b == 3)
def cntB (n : Int) : Bool := decide (1 ≤ n) && decide (n ≤ 4)
def plcB (I : Nat → Int) : Bool := inB (I 12) 4 && (inB (I 13) 4 && (inB (I 14) 4 && inB (I 15) 4))
/-- Whether a number stands twice. -/
def twB : List Int → Bool
  | [] => false
  | x :: r => r.contains x || twB r
def loadB (C : Cod) (I : Nat → Int) : Bool :=
  if I 1 = 1 then C.stage == 1 && inB (I 5) C.attr
  else if I 1 = 2 then inB (I 5) C.unif
  else if I 1 = 3 then C.stage == 2 && inB (I 5) C.vary
  else if I 1 = 4 ∨ I 1 = 5 ∨ I 1 = 6 then C.stage == 2 && I 5 == 0
  else false
def storB (C : Cod) (I : Nat → Int) : Bool :=
  if I 1 = 1 ∨ I 1 = 2 then C.stage == 1 && I 5 == 0
  else if I 1 = 3 then C.stage == 1 && inB (I 5) C.vary
  else if I 1 = 4 then C.stage == 2 && I 5 == 0
  else false
def plcs (I : Nat → Int) : List Int := [I 12, I 13, I 14, I 15]
/-- Whether the fields that count and name no register may be. -/
def fldB (C : Cod) (n k : Nat) (I : Nat → Int) : Bool :=
  if I 0 = 1 ∨ I 0 = 2 ∨ I 0 = 9 then true
  else if I 0 = 3 then loadB C I
  else if I 0 = 4 then storB C I
  else if I 0 = 5 then decide (0 < argsP (I 1) (I 2)) && cntB (I 3)
  else if I 0 = 6 then cntB (I 3) && plcB I
  else if I 0 = 7 then cntB (I 3) && (plcB I && !twB ((plcs I).take (I 3).toNat))
  else if I 0 = 8 then cntB (I 3) && (baseB (I 2) && baseB (I 1))
  else if I 0 = 10 ∨ I 0 = 11 then decide ((k : Int) < I 5) && decide (I 5 ≤ (n : Int))
  else if I 0 = 12 then C.stage == 2
  else false
def rgsB (C : Cod) (I : Nat → Int) : Bool := (readsP I).all (fun r => inB r C.regs) && (!wrB (I 0) || inB (writI I) C.regs)
/-- May the instruction be at the place k of n? -/
def insB (C : Cod) (n k : Nat) (I : Nat → Int) : Bool := sameI I (justP I) && (rgsB C I && fldB C n k I)
def headB (C : Cod) : Bool :=
  if C.stage = 1 then inB C.regs 1025 && (inB C.attr 9 && (inB C.unif 33 && inB C.vary 5))
  else if C.stage = 2 then inB C.regs 1025 && (inB C.attr 1 && (inB C.unif 33 && inB C.vary 5))
  else false
def zI : Nat → Int := fun _ => 0
/-- May the first m instructions be? -/
def mayTo (C : Cod) (m : Nat) : Bool := (List.range m).all fun k => insB C C.ins.length k (C.ins.getD k zI)
/-- May a code be? -/
def mayP (C : Cod) : Bool := headB C && (decide (C.ins.length ≤ 4096) && mayTo C C.ins.length)
theorem mayTo_succ (C : Cod) (m : Nat) : mayTo C (m + 1) = (mayTo C m && insB C C.ins.length m (C.ins.getD m zI)) := by
  unfold mayTo
  rw [List.range_succ, List.all_append]
  simp
theorem mayTo_false {C : Cod} {k n : Nat} (h : insB C C.ins.length k (C.ins.getD k zI) = false) (hk : k < n) : mayTo C n = false := by
  unfold mayTo
  rw [List.all_eq_false]
  exact ⟨k, List.mem_range.2 hk, by rw [h]; decide⟩
theorem mayTo_at {C : Cod} {k n : Nat} (h : mayTo C n = true) (hk : k < n) : insB C C.ins.length k (C.ins.getD k zI) = true := by
  unfold mayTo at h
  exact List.all_eq_true.1 h k (List.mem_range.2 hk)

/-- Where the instruction at the place k leads to. -/
def nextP (I : Nat → Int) (k : Nat) : List Int :=
  if I 0 = 10 then [I 5] else if I 0 = 11 then [I 5, (k : Int) + 1] else if I 0 = 12 then [] else [(k : Int) + 1]
def markL (r : List Bool) : List Int → List Bool
  | [] => r
  | x :: t => markL (r.set x.toNat true) t
def stepR (r : List Bool) (I : Nat → Int) (k : Nat) : List Bool := if r.getD k false then markL r (nextP I k) else r
/-- What can be come to, the first k instructions done. -/
def reachTo (L : List (Nat → Int)) : Nat → List Bool
  | 0 => (List.replicate (L.length + 1) false).set 0 true
  | k + 1 => stepR (reachTo L k) (L.getD k zI) k
def reachP (L : List (Nat → Int)) : List Bool := reachTo L L.length
theorem markL_len (r : List Bool) (l : List Int) : (markL r l).length = r.length := by
  induction l generalizing r with
  | nil => rfl
  | cons x t ih => rw [markL, ih, List.length_set]
theorem reachTo_len (L : List (Nat → Int)) (k : Nat) : (reachTo L k).length = L.length + 1 := by
  induction k with
  | zero => simp [reachTo]
  | succ k ih =>
    rw [reachTo, stepR]
    split
    · rw [markL_len, ih]
    · exact ih
end Go.Proofs.YtglfhmlcmffoaaaGreat
