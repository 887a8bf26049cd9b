/- Several texts in one. -/
import Derived.Test.YtgmahpkhdnabjaaGreatVMBJ
import Derived.Test.YtgmahpkhdnabjaaGreatVBJ
import Derived.Test.YtgmahpkhdnabjaaGreatLemJ
/-
  The machine of registers: what functions do to floats (byComponent, ofFloats). Written by mkvm.py.
-/
namespace Go.Proofs.YtgmahpkhdnabjaaGreat
open Go.RowKit
set_option linter.unusedVariables false
set_option linter.unusedSimpArgs false

/-- What a function does to floats by component. -/
def bcI (fn n : Int) (a b : Nat → Int) : Nat → Int :=
  match ofTwoN fn with
  | some op => cut n (fun i => twoI op (a i) (b i))
  | none => match ofOneN fn with
    | some op => cut n (fun i => oneI op (a i))
    | none => mtI fn n a b

set_option maxRecDepth 10000 in
set_option maxHeartbeats 4000000 in
theorem byComponent_any (fn n : Int) (a b : Nat → Int) (w : World) (h1 : 1 ≤ n) (h4 : n ≤ 4) (Ia : ∀ i, I32 (a i)) (Ib : ∀ i, I32 (b i)) :
    Calls Tryz.prog 122 #[.int .i64 fn, .int .i64 n, .agg #[.int .i32 (a 0), .int .i32 (a 1), .int .i32 (a 2), .int .i32 (a 3)], .agg #[.int .i32 (b 0), .int .i32 (b 1), .int .i32 (b 2), .int .i32 (b 3)]] w fun e w' => e = .returned (.agg #[.int .i32 (bcI fn n a b 0), .int .i32 (bcI fn n a b 1), .int .i32 (bcI fn n a b 2), .int .i32 (bcI fn n a b 3)]) ∧ Ext w w' := by
  have HI := hide (And.intro Ia Ib)
  clear Ia Ib
  have HB := hide (show Blk (((w.alloc (.cells #[.int .i32 (a 0), .int .i32 (a 1), .int .i32 (a 2), .int .i32 (a 3)] 28)).alloc (.cells #[.int .i32 (b 0), .int .i32 (b 1), .int .i32 (b 2), .int .i32 (b 3)] 28)).alloc (.cells #[.int .i32 (nul 0), .int .i32 (nul 1), .int .i32 (nul 2), .int .i32 (nul 3)] 28)) (w.heap.size + 1 + 1) #[.int .i32 (nul 0), .int .i32 (nul 1), .int .i32 (nul 2), .int .i32 (nul 3)] 28 ∧ Ext w (((w.alloc (.cells #[.int .i32 (a 0), .int .i32 (a 1), .int .i32 (a 2), .int .i32 (a 3)] 28)).alloc (.cells #[.int .i32 (b 0), .int .i32 (b 1), .int .i32 (b 2), .int .i32 (b 3)] 28)).alloc (.cells #[.int .i32 (nul 0), .int .i32 (nul 1), .int .i32 (nul 2), .int .i32 (nul 3)] 28)) from ⟨Blk.at (by simp), ((((Ext.refl w).alloc _).alloc _).alloc _)⟩)
  cases h2 : ofTwoN fn with
  | some op =>
    have E : Hid (bcI fn n a b = cut n (fun i => twoI op (a i) (b i))) := by unfold bcI; rw [h2]; trivial
    have hop := ofTwoN_in h2
    have H2 := hide h2
    clear h2
    go_enter Tryz.func122, Tryz.ntmps122
    go_wp2_with (first
      | (go_at_call 163; refine (ofTwo_some _ op _ (unhide H2)).mono ?_; rintro e w1 ⟨rfl, rfl⟩)
      | (go_at_call 157; refine (two_any op n a b _ hop.1 hop.2 h1 h4 (unhide HI).1 (unhide HI).2).mono ?_; rintro e w1 ⟨rfl, hx⟩; have R := hide (And.intro ((unhide HB).1.ext hx) ((unhide HB).2.trans hx)); clear hx HB; have R2 := hide (And.intro ((unhide R).1.alloc (.cells #[.int .i32 (cut n (fun i => twoI op (a i) (b i)) 0), .int .i32 (cut n (fun i => twoI op (a i) (b i)) 1), .int .i32 (cut n (fun i => twoI op (a i) (b i)) 2), .int .i32 (cut n (fun i => twoI op (a i) (b i)) 3)] 28)) ((unhide R).2.alloc (.cells #[.int .i32 (cut n (fun i => twoI op (a i) (b i)) 0), .int .i32 (cut n (fun i => twoI op (a i) (b i)) 1), .int .i32 (cut n (fun i => twoI op (a i) (b i)) 2), .int .i32 (cut n (fun i => twoI op (a i) (b i)) 3)] 28))); obtain ⟨r0, r1, r2, r3⟩ := (unhide R2).1.vec4; obtain ⟨f0, f1, f2, f3⟩ := (unhide R2).1.free4))
    obtain ⟨q0, q1, q2, q3⟩ := lay4 (unhide R2).1 (.int .i32 ((cut n (fun i => twoI op (a i) (b i))) 0)) (.int .i32 ((cut n (fun i => twoI op (a i) (b i))) 1)) (.int .i32 ((cut n (fun i => twoI op (a i) (b i))) 2)) (.int .i32 ((cut n (fun i => twoI op (a i) (b i))) 3))
    refine bodyPost_ret (v := .agg #[.int .i32 ((cut n (fun i => twoI op (a i) (b i))) 0), .int .i32 ((cut n (fun i => twoI op (a i) (b i))) 1), .int .i32 ((cut n (fun i => twoI op (a i) (b i))) 2), .int .i32 ((cut n (fun i => twoI op (a i) (b i))) 3)]) (by simp [results, Tryz.results122, go_sem, q0, q1, q2, q3]) rfl ⟨by rw [unhide E], ext_set4 (unhide R2).2 (by omega)⟩
  | none =>
    have H2 := hide h2
    cases h3 : ofOneN fn with
    | some op =>
      have E : Hid (bcI fn n a b = cut n (fun i => oneI op (a i))) := by unfold bcI; rw [h2, h3]; trivial
      have hop := ofOneN_in h3
      have H3 := hide h3
      clear h2 h3
      go_enter Tryz.func122, Tryz.ntmps122
      go_wp2_with (first
        | (go_at_call 163; refine (ofTwo_none _ _ (unhide H2)).mono ?_; rintro e w1 ⟨rfl, rfl⟩)
        | (go_at_call 164; refine (ofOne_some _ op _ (unhide H3)).mono ?_; rintro e w1 ⟨rfl, rfl⟩)
        | (go_at_call 165; refine (one_any op n a _ hop.1 hop.2 h1 h4 (unhide HI).1).mono ?_; rintro e w1 ⟨rfl, hx⟩; have R := hide (And.intro ((unhide HB).1.ext hx) ((unhide HB).2.trans hx)); clear hx HB; have R2 := hide (And.intro ((unhide R).1.alloc (.cells #[.int .i32 (cut n (fun i => oneI op (a i)) 0), .int .i32 (cut n (fun i => oneI op (a i)) 1), .int .i32 (cut n (fun i => oneI op (a i)) 2), .int .i32 (cut n (fun i => oneI op (a i)) 3)] 28)) ((unhide R).2.alloc (.cells #[.int .i32 (cut n (fun i => oneI op (a i)) 0), .int .i32 (cut n (fun i => oneI op (a i)) 1), .int .i32 (cut n (fun i => oneI op (a i)) 2), .int .i32 (cut n (fun i => oneI op (a i)) 3)] 28))); obtain ⟨r0, r1, r2, r3⟩ := (unhide R2).1.vec4; obtain ⟨f0, f1, f2, f3⟩ := (unhide R2).1.free4))
      obtain ⟨q0, q1, q2, q3⟩ := lay4 (unhide R2).1 (.int .i32 ((cut n (fun i => oneI op (a i))) 0)) (.int .i32 ((cut n (fun i => oneI op (a i))) 1)) (.int .i32 ((cut n (fun i => oneI op (a i))) 2)) (.int .i32 ((cut n (fun i => oneI op (a i))) 3))
      refine bodyPost_ret (v := .agg #[.int .i32 ((cut n (fun i => oneI op (a i))) 0), .int .i32 ((cut n (fun i => oneI op (a i))) 1), .int .i32 ((cut n (fun i => oneI op (a i))) 2), .int .i32 ((cut n (fun i => oneI op (a i))) 3)]) (by simp [results, Tryz.results122, go_sem, q0, q1, q2, q3]) rfl ⟨by rw [unhide E], ext_set4 (unhide R2).2 (by omega)⟩
    | none =>
      have E : Hid (bcI fn n a b = mtI fn n a b) := by unfold bcI; rw [h2, h3]; trivial
      have H3 := hide h3
      clear h2 h3
      go_enter Tryz.func122, Tryz.ntmps122
      go_wp2_with (first
        | (go_at_call 163; refine (ofTwo_none _ _ (unhide H2)).mono ?_; rintro e w1 ⟨rfl, rfl⟩)
        | (go_at_call 164; refine (ofOne_none _ _ (unhide H3)).mono ?_; rintro e w1 ⟨rfl, rfl⟩)
        | (go_at_call 166; refine (ofMaths_any fn n a b _ h1 h4 (unhide HI).1 (unhide HI).2).mono ?_; rintro e w1 ⟨rfl, hx⟩; have R := hide (And.intro ((unhide HB).1.ext hx) ((unhide HB).2.trans hx)); clear hx HB; obtain ⟨r0, r1, r2, r3⟩ := (unhide R).1.vec4; obtain ⟨f0, f1, f2, f3⟩ := (unhide R).1.free4))
      obtain ⟨q0, q1, q2, q3⟩ := lay4 (unhide R).1 (.int .i32 ((mtI fn n a b) 0)) (.int .i32 ((mtI fn n a b) 1)) (.int .i32 ((mtI fn n a b) 2)) (.int .i32 ((mtI fn n a b) 3))
      refine bodyPost_ret (v := .agg #[.int .i32 ((mtI fn n a b) 0), .int .i32 ((mtI fn n a b) 1), .int .i32 ((mtI fn n a b) 2), .int .i32 ((mtI fn n a b) 3)]) (by simp [results, Tryz.results122, go_sem, q0, q1, q2, q3]) rfl ⟨by rw [unhide E], ext_set4 (unhide R).2 (by omega)⟩

/-- A number alone. -/
def fstI (x : Int) : Nat → Int := fun i => if i = 0 then x else 0
def crsI (a b : Nat → Int) : Nat → Int := fun i => if i = 0 then crossI a b 1 2 else if i = 1 then crossI a b 2 0 else if i = 2 then crossI a b 0 1 else 0
/-- What a function does to floats. -/
def ofI (fn n : Int) (a b c : Nat → Int) : Nat → Int :=
  if fn = 17 then cut n (fun i => addI (a i) (mulI (subI (b i) (a i)) (c i)))
  else if fn = 18 then cut n (fun i => clampI (a i) (b i) (c i))
  else if fn = 19 then fstI (sumI (cut n (fun i => mulI (a i) (b i))) 4)
  else if fn = 20 then fstI (lengthI a n)
  else if fn = 21 then crsI a b
  else if fn = 11 then unitI a n
  else bcI fn n a b

set_option maxRecDepth 10000 in
set_option maxHeartbeats 8000000 in
theorem ofFloats_any (fn n : Int) (a b c : Nat → Int) (w : World) (h1 : 1 ≤ n) (h4 : n ≤ 4) (Ia : ∀ i, I32 (a i)) (Ib : ∀ i, I32 (b i)) (Ic : ∀ i, I32 (c i)) :
    Calls Tryz.prog 76 #[.int .i64 fn, .int .i64 n, .agg #[.int .i32 (a 0), .int .i32 (a 1), .int .i32 (a 2), .int .i32 (a 3)], .agg #[.int .i32 (b 0), .int .i32 (b 1), .int .i32 (b 2), .int .i32 (b 3)], .agg #[.int .i32 (c 0), .int .i32 (c 1), .int .i32 (c 2), .int .i32 (c 3)]] w fun e w' => e = .returned (.agg #[.int .i32 (ofI fn n a b c 0), .int .i32 (ofI fn n a b c 1), .int .i32 (ofI fn n a b c 2), .int .i32 (ofI fn n a b c 3)]) ∧ Ext w w' := by
  have HI := hide (And.intro Ia (And.intro Ib Ic))
  clear Ia Ib Ic
  have HB := hide (show Blk (((((w.alloc (.cells #[.int .i32 (a 0), .int .i32 (a 1), .int .i32 (a 2), .int .i32 (a 3)] 28)).alloc (.cells #[.int .i32 (b 0), .int .i32 (b 1), .int .i32 (b 2), .int .i32 (b 3)] 28)).alloc (.cells #[.int .i32 (c 0), .int .i32 (c 1), .int .i32 (c 2), .int .i32 (c 3)] 28)).alloc (.cells #[.int .i32 (nul 0), .int .i32 (nul 1), .int .i32 (nul 2), .int .i32 (nul 3)] 28)).alloc (.cells #[.int .i32 (nul 0), .int .i32 (nul 1), .int .i32 (nul 2), .int .i32 (nul 3)] 28)) (w.heap.size + 1 + 1 + 1) #[.int .i32 (nul 0), .int .i32 (nul 1), .int .i32 (nul 2), .int .i32 (nul 3)] 28 ∧ Blk (((((w.alloc (.cells #[.int .i32 (a 0), .int .i32 (a 1), .int .i32 (a 2), .int .i32 (a 3)] 28)).alloc (.cells #[.int .i32 (b 0), .int .i32 (b 1), .int .i32 (b 2), .int .i32 (b 3)] 28)).alloc (.cells #[.int .i32 (c 0), .int .i32 (c 1), .int .i32 (c 2), .int .i32 (c 3)] 28)).alloc (.cells #[.int .i32 (nul 0), .int .i32 (nul 1), .int .i32 (nul 2), .int .i32 (nul 3)] 28)).alloc (.cells #[.int .i32 (nul 0), .int .i32 (nul 1), .int .i32 (nul 2), .int .i32 (nul 3)] 28)) (w.heap.size + 1 + 1 + 1 + 1) #[.int .i32 (nul 0), .int .i32 (nul 1), .int .i32 (nul 2), .int .i32 (nul 3)] 28 ∧ Ext w (((((w.alloc (.cells #[.int .i32 (a 0), .int .i32 (a 1), .int .i32 (a 2), .int .i32 (a 3)] 28)).alloc (.cells #[.int .i32 (b 0), .int .i32 (b 1), .int .i32 (b 2), .int .i32 (b 3)] 28)).alloc (.cells #[.int .i32 (c 0), .int .i32 (c 1), .int .i32 (c 2), .int .i32 (c 3)] 28)).alloc (.cells #[.int .i32 (nul 0), .int .i32 (nul 1), .int .i32 (nul 2), .int .i32 (nul 3)] 28)).alloc (.cells #[.int .i32 (nul 0), .int .i32 (nul 1), .int .i32 (nul 2), .int .i32 (nul 3)] 28)) from ⟨(Blk.at (by simp)).alloc _, Blk.at (by simp), ((((((Ext.refl w).alloc _).alloc _).alloc _).alloc _).alloc _)⟩)
  by_cases e17 : fn = 17
  case pos =>
    subst e17
    have E : Hid (ofI 17 n a b c = cut n (fun i => addI (a i) (mulI (subI (b i) (a i)) (c i)))) := rfl
    go_enter Tryz.func76, Tryz.ntmps76
    go_wp2_with (go_at_call 116; refine (mixV_any n a b c _ h1 h4 (unhide HI).1 (unhide HI).2.1 (unhide HI).2.2).mono ?_; rintro e w1 ⟨rfl, hx⟩; have R := hide (And.intro ((unhide HB).1.ext hx) (And.intro ((unhide HB).2.1.ext hx) ((unhide HB).2.2.trans hx))); clear hx HB; obtain ⟨s0, s1, s2, s3⟩ := (unhide R).2.1.vec4; obtain ⟨g0, g1, g2, g3⟩ := (unhide R).2.1.free4; obtain ⟨r0, r1, r2, r3⟩ := (unhide R).1.vec4; obtain ⟨f0, f1, f2, f3⟩ := (unhide R).1.free4; obtain ⟨p0, p1, p2, p3⟩ := lay4 (unhide R).2.1 (.int .i32 (cut n (fun i => addI (a i) (mulI (subI (b i) (a i)) (c i))) 0)) (.int .i32 (cut n (fun i => addI (a i) (mulI (subI (b i) (a i)) (c i))) 1)) (.int .i32 (cut n (fun i => addI (a i) (mulI (subI (b i) (a i)) (c i))) 2)) (.int .i32 (cut n (fun i => addI (a i) (mulI (subI (b i) (a i)) (c i))) 3)))
    obtain ⟨q0, q1, q2, q3⟩ := lay4 (a := nul) (((((unhide R).1.other (r := (w.heap.size + 1 + 1 + 1 + 1)) 0 (.int .i32 (cut n (fun i => addI (a i) (mulI (subI (b i) (a i)) (c i))) 0)) (by omega)).other (r := (w.heap.size + 1 + 1 + 1 + 1)) 1 (.int .i32 (cut n (fun i => addI (a i) (mulI (subI (b i) (a i)) (c i))) 1)) (by omega)).other (r := (w.heap.size + 1 + 1 + 1 + 1)) 2 (.int .i32 (cut n (fun i => addI (a i) (mulI (subI (b i) (a i)) (c i))) 2)) (by omega)).other (r := (w.heap.size + 1 + 1 + 1 + 1)) 3 (.int .i32 (cut n (fun i => addI (a i) (mulI (subI (b i) (a i)) (c i))) 3)) (by omega)) (.int .i32 (cut n (fun i => addI (a i) (mulI (subI (b i) (a i)) (c i))) 0)) (.int .i32 (cut n (fun i => addI (a i) (mulI (subI (b i) (a i)) (c i))) 1)) (.int .i32 (cut n (fun i => addI (a i) (mulI (subI (b i) (a i)) (c i))) 2)) (.int .i32 (cut n (fun i => addI (a i) (mulI (subI (b i) (a i)) (c i))) 3))
    refine bodyPost_ret (v := .agg #[.int .i32 (cut n (fun i => addI (a i) (mulI (subI (b i) (a i)) (c i))) 0), .int .i32 (cut n (fun i => addI (a i) (mulI (subI (b i) (a i)) (c i))) 1), .int .i32 (cut n (fun i => addI (a i) (mulI (subI (b i) (a i)) (c i))) 2), .int .i32 (cut n (fun i => addI (a i) (mulI (subI (b i) (a i)) (c i))) 3)]) (by simp [results, Tryz.results76, go_sem, q0, q1, q2, q3]) rfl ⟨by rw [unhide E] <;> rfl, ext_set4 (ext_set4 (unhide R).2.2 (by omega)) (by omega)⟩
  case neg =>
  have d17 : (fn == 17) = false := by simp [e17]
  by_cases e18 : fn = 18
  case pos =>
    subst e18
    have E : Hid (ofI 18 n a b c = cut n (fun i => clampI (a i) (b i) (c i))) := rfl
    go_enter Tryz.func76, Tryz.ntmps76
    go_wp2_with (go_at_call 117; refine (clampV_any n a b c _ h1 h4).mono ?_; rintro e w1 ⟨rfl, hx⟩; have R := hide (And.intro ((unhide HB).1.ext hx) (And.intro ((unhide HB).2.1.ext hx) ((unhide HB).2.2.trans hx))); clear hx HB; obtain ⟨s0, s1, s2, s3⟩ := (unhide R).2.1.vec4; obtain ⟨g0, g1, g2, g3⟩ := (unhide R).2.1.free4; obtain ⟨r0, r1, r2, r3⟩ := (unhide R).1.vec4; obtain ⟨f0, f1, f2, f3⟩ := (unhide R).1.free4; obtain ⟨p0, p1, p2, p3⟩ := lay4 (unhide R).2.1 (.int .i32 (cut n (fun i => clampI (a i) (b i) (c i)) 0)) (.int .i32 (cut n (fun i => clampI (a i) (b i) (c i)) 1)) (.int .i32 (cut n (fun i => clampI (a i) (b i) (c i)) 2)) (.int .i32 (cut n (fun i => clampI (a i) (b i) (c i)) 3)))
    obtain ⟨q0, q1, q2, q3⟩ := lay4 (a := nul) (((((unhide R).1.other (r := (w.heap.size + 1 + 1 + 1 + 1)) 0 (.int .i32 (cut n (fun i => clampI (a i) (b i) (c i)) 0)) (by omega)).other (r := (w.heap.size + 1 + 1 + 1 + 1)) 1 (.int .i32 (cut n (fun i => clampI (a i) (b i) (c i)) 1)) (by omega)).other (r := (w.heap.size + 1 + 1 + 1 + 1)) 2 (.int .i32 (cut n (fun i => clampI (a i) (b i) (c i)) 2)) (by omega)).other (r := (w.heap.size + 1 + 1 + 1 + 1)) 3 (.int .i32 (cut n (fun i => clampI (a i) (b i) (c i)) 3)) (by omega)) (.int .i32 (cut n (fun i => clampI (a i) (b i) (c i)) 0)) (.int .i32 (cut n (fun i => clampI (a i) (b i) (c i)) 1)) (.int .i32 (cut n (fun i => clampI (a i) (b i) (c i)) 2)) (.int .i32 (cut n (fun i => clampI (a i) (b i) (c i)) 3))
    refine bodyPost_ret (v := .agg #[.int .i32 (cut n (fun i => clampI (a i) (b i) (c i)) 0), .int .i32 (cut n (fun i => clampI (a i) (b i) (c i)) 1), .int .i32 (cut n (fun i => clampI (a i) (b i) (c i)) 2), .int .i32 (cut n (fun i => clampI (a i) (b i) (c i)) 3)]) (by simp [results, Tryz.results76, go_sem, q0, q1, q2, q3]) rfl ⟨by rw [unhide E] <;> rfl, ext_set4 (ext_set4 (unhide R).2.2 (by omega)) (by omega)⟩
  case neg =>
  have d18 : (fn == 18) = false := by simp [e18]
  by_cases e19 : fn = 19
  case pos =>
    subst e19
    have E : Hid (ofI 19 n a b c = fstI (sumI (cut n (fun i => mulI (a i) (b i))) 4)) := rfl
    go_enter Tryz.func76, Tryz.ntmps76
    go_wp2_with (go_at_call 118; refine (dot_any n a b _ h1 h4 (unhide HI).1 (unhide HI).2.1).mono ?_; rintro e w1 ⟨rfl, hx⟩; have R := hide (And.intro ((unhide HB).1.ext hx) (And.intro ((unhide HB).2.1.ext hx) ((unhide HB).2.2.trans hx))); clear hx HB; obtain ⟨s0, s1, s2, s3⟩ := (unhide R).2.1.vec4; obtain ⟨g0, g1, g2, g3⟩ := (unhide R).2.1.free4; obtain ⟨r0, r1, r2, r3⟩ := (unhide R).1.vec4; obtain ⟨f0, f1, f2, f3⟩ := (unhide R).1.free4; have p0 : (w1.setCell ⟨(w.heap.size + 1 + 1 + 1 + 1), 0, none⟩ (.int .i32 (sumI (cut n (fun i => mulI (a i) (b i))) 4))).cell? ⟨(w.heap.size + 1 + 1 + 1 + 1), 0, none⟩ = some (.int .i32 (sumI (cut n (fun i => mulI (a i) (b i))) 4)) := ((unhide R).2.1.set 0 _).cell rfl)
    obtain ⟨q0, q1, q2, q3⟩ := lay4 (a := nul) ((unhide R).1.other (r := (w.heap.size + 1 + 1 + 1 + 1)) 0 (.int .i32 (sumI (cut n (fun i => mulI (a i) (b i))) 4)) (by omega)) (.int .i32 (sumI (cut n (fun i => mulI (a i) (b i))) 4)) (.int .i32 (nul 1)) (.int .i32 (nul 2)) (.int .i32 (nul 3))
    refine bodyPost_ret (v := .agg #[.int .i32 (sumI (cut n (fun i => mulI (a i) (b i))) 4), .int .i32 (nul 1), .int .i32 (nul 2), .int .i32 (nul 3)]) (by simp [results, Tryz.results76, go_sem, q0, q1, q2, q3]) rfl ⟨by rw [unhide E] <;> rfl, ext_set4 (ext_set (unhide R).2.2 (by omega)) (by omega)⟩
  case neg =>
  have d19 : (fn == 19) = false := by simp [e19]
  by_cases e20 : fn = 20
  case pos =>
    subst e20
    have E : Hid (ofI 20 n a b c = fstI (lengthI a n)) := rfl
    go_enter Tryz.func76, Tryz.ntmps76
    go_wp2_with (go_at_call 119; refine (length_any a n _ (unhide HI).1).mono ?_; rintro e w1 ⟨rfl, hx⟩; have R := hide (And.intro ((unhide HB).1.ext hx) (And.intro ((unhide HB).2.1.ext hx) ((unhide HB).2.2.trans hx))); clear hx HB; obtain ⟨s0, s1, s2, s3⟩ := (unhide R).2.1.vec4; obtain ⟨g0, g1, g2, g3⟩ := (unhide R).2.1.free4; obtain ⟨r0, r1, r2, r3⟩ := (unhide R).1.vec4; obtain ⟨f0, f1, f2, f3⟩ := (unhide R).1.free4; have p0 : (w1.setCell ⟨(w.heap.size + 1 + 1 + 1 + 1), 0, none⟩ (.int .i32 (lengthI a n))).cell? ⟨(w.heap.size + 1 + 1 + 1 + 1), 0, none⟩ = some (.int .i32 (lengthI a n)) := ((unhide R).2.1.set 0 _).cell rfl)
    obtain ⟨q0, q1, q2, q3⟩ := lay4 (a := nul) ((unhide R).1.other (r := (w.heap.size + 1 + 1 + 1 + 1)) 0 (.int .i32 (lengthI a n)) (by omega)) (.int .i32 (lengthI a n)) (.int .i32 (nul 1)) (.int .i32 (nul 2)) (.int .i32 (nul 3))
    refine bodyPost_ret (v := .agg #[.int .i32 (lengthI a n), .int .i32 (nul 1), .int .i32 (nul 2), .int .i32 (nul 3)]) (by simp [results, Tryz.results76, go_sem, q0, q1, q2, q3]) rfl ⟨by rw [unhide E] <;> rfl, ext_set4 (ext_set (unhide R).2.2 (by omega)) (by omega)⟩
  case neg =>
  have d20 : (fn == 20) = false := by simp [e20]
  by_cases e21 : fn = 21
  case pos =>
    subst e21
    have E : Hid (ofI 21 n a b c = crsI a b) := rfl
    go_enter Tryz.func76, Tryz.ntmps76
    go_wp2_with (go_at_call 120; refine (crossV_any a b _ (unhide HI).1 (unhide HI).2.1).mono ?_; rintro e w1 ⟨rfl, hx⟩; have R := hide (And.intro ((unhide HB).1.ext hx) (And.intro ((unhide HB).2.1.ext hx) ((unhide HB).2.2.trans hx))); clear hx HB; obtain ⟨s0, s1, s2, s3⟩ := (unhide R).2.1.vec4; obtain ⟨g0, g1, g2, g3⟩ := (unhide R).2.1.free4; obtain ⟨r0, r1, r2, r3⟩ := (unhide R).1.vec4; obtain ⟨f0, f1, f2, f3⟩ := (unhide R).1.free4; obtain ⟨p0, p1, p2, p3⟩ := lay4 (unhide R).2.1 (.int .i32 (crossI a b 1 2)) (.int .i32 (crossI a b 2 0)) (.int .i32 (crossI a b 0 1)) (.int .i32 0))
    obtain ⟨q0, q1, q2, q3⟩ := lay4 (a := nul) (((((unhide R).1.other (r := (w.heap.size + 1 + 1 + 1 + 1)) 0 (.int .i32 (crossI a b 1 2)) (by omega)).other (r := (w.heap.size + 1 + 1 + 1 + 1)) 1 (.int .i32 (crossI a b 2 0)) (by omega)).other (r := (w.heap.size + 1 + 1 + 1 + 1)) 2 (.int .i32 (crossI a b 0 1)) (by omega)).other (r := (w.heap.size + 1 + 1 + 1 + 1)) 3 (.int .i32 0) (by omega)) (.int .i32 (crossI a b 1 2)) (.int .i32 (crossI a b 2 0)) (.int .i32 (crossI a b 0 1)) (.int .i32 0)
    refine bodyPost_ret (v := .agg #[.int .i32 (crossI a b 1 2), .int .i32 (crossI a b 2 0), .int .i32 (crossI a b 0 1), .int .i32 0]) (by simp [results, Tryz.results76, go_sem, q0, q1, q2, q3]) rfl ⟨by rw [unhide E] <;> rfl, ext_set4 (ext_set4 (unhide R).2.2 (by omega)) (by omega)⟩
  case neg =>
  have d21 : (fn == 21) = false := by simp [e21]
  by_cases e11 : fn = 11
  case pos =>
    subst e11
    have E : Hid (ofI 11 n a b c = unitI a n) := rfl
    go_enter Tryz.func76, Tryz.ntmps76
    go_wp2_with (go_at_call 121; refine (normalize_any a n _ (unhide HI).1).mono ?_; rintro e w1 ⟨rfl, hx⟩; have R := hide (And.intro ((unhide HB).1.ext hx) (And.intro ((unhide HB).2.1.ext hx) ((unhide HB).2.2.trans hx))); clear hx HB; obtain ⟨s0, s1, s2, s3⟩ := (unhide R).2.1.vec4; obtain ⟨g0, g1, g2, g3⟩ := (unhide R).2.1.free4; obtain ⟨r0, r1, r2, r3⟩ := (unhide R).1.vec4; obtain ⟨f0, f1, f2, f3⟩ := (unhide R).1.free4; obtain ⟨p0, p1, p2, p3⟩ := lay4 (unhide R).2.1 (.int .i32 (unitI a n 0)) (.int .i32 (unitI a n 1)) (.int .i32 (unitI a n 2)) (.int .i32 (unitI a n 3)))
    obtain ⟨q0, q1, q2, q3⟩ := lay4 (a := nul) (((((unhide R).1.other (r := (w.heap.size + 1 + 1 + 1 + 1)) 0 (.int .i32 (unitI a n 0)) (by omega)).other (r := (w.heap.size + 1 + 1 + 1 + 1)) 1 (.int .i32 (unitI a n 1)) (by omega)).other (r := (w.heap.size + 1 + 1 + 1 + 1)) 2 (.int .i32 (unitI a n 2)) (by omega)).other (r := (w.heap.size + 1 + 1 + 1 + 1)) 3 (.int .i32 (unitI a n 3)) (by omega)) (.int .i32 (unitI a n 0)) (.int .i32 (unitI a n 1)) (.int .i32 (unitI a n 2)) (.int .i32 (unitI a n 3))
    refine bodyPost_ret (v := .agg #[.int .i32 (unitI a n 0), .int .i32 (unitI a n 1), .int .i32 (unitI a n 2), .int .i32 (unitI a n 3)]) (by simp [results, Tryz.results76, go_sem, q0, q1, q2, q3]) rfl ⟨by rw [unhide E] <;> rfl, ext_set4 (ext_set4 (unhide R).2.2 (by omega)) (by omega)⟩
  case neg =>
  have d11 : (fn == 11) = false := by simp [e11]
  have E : Hid (ofI fn n a b c = bcI fn n a b) := by unfold ofI; rw [if_neg e17, if_neg e18, if_neg e19, if_neg e20, if_neg e21, if_neg e11]; trivial
  clear e17 e18 e19 e20 e21 e11
  go_enter Tryz.func76, Tryz.ntmps76
  go_wp2_with (go_at_call 122; refine (byComponent_any fn n a b _ h1 h4 (unhide HI).1 (unhide HI).2.1).mono ?_; rintro e w1 ⟨rfl, hx⟩; have R := hide (And.intro ((unhide HB).1.ext hx) ((unhide HB).2.2.trans hx)); clear hx HB; obtain ⟨r0, r1, r2, r3⟩ := (unhide R).1.vec4; obtain ⟨f0, f1, f2, f3⟩ := (unhide R).1.free4)
  obtain ⟨q0, q1, q2, q3⟩ := lay4 (unhide R).1 (.int .i32 ((bcI fn n a b) 0)) (.int .i32 ((bcI fn n a b) 1)) (.int .i32 ((bcI fn n a b) 2)) (.int .i32 ((bcI fn n a b) 3))
  refine bodyPost_ret (v := .agg #[.int .i32 ((bcI fn n a b) 0), .int .i32 ((bcI fn n a b) 1), .int .i32 ((bcI fn n a b) 2), .int .i32 ((bcI fn n a b) 3)]) (by simp [results, Tryz.results76, go_sem, q0, q1, q2, q3]) rfl ⟨by rw [unhide E], ext_set4 (unhide R).2 (by omega)⟩
end Go.Proofs.YtgmahpkhdnabjaaGreat

/-
  Codes, plainly: instructions as sixteen numbers, which may be, what they read and write, what can be come to. Nothing here speaks of the program.
-/
namespace Go.Proofs.YtgmahpkhdnabjaaGreat

/-- A code; an instruction is sixteen numbers: Op, Fn, Base, N, Dst, A, B, C, four of Imm, four of Places. -/
structure Cod where
  stage : Int
  regs : Int
  attr : Int
  unif : Int
  vary : Int
  ins : List (Nat → Int)

def inB (x n : Int) : Bool := decide (0 ≤ x) && decide (x < n)
def fargs (f : Int) : Nat := if (12 ≤ f ∧ f ≤ 16) ∨ f = 19 ∨ f = 21 then 2 else if f = 17 ∨ f = 18 then 3 else 1
/-- How many arguments a function takes of a base. -/
def argsP (f b : Int) : Nat :=
  if 1 ≤ f ∧ f ≤ 21 then (if b = 1 then fargs f else 0)
  else if f = 28 then (if b = 1 ∨ b = 2 then 1 else 0)
  else if 24 ≤ f ∧ f ≤ 32 then (if b = 1 ∨ b = 2 then 2 else 0)
  else if f = 33 ∨ f = 34 then (if b = 1 ∨ b = 2 ∨ b = 3 then 2 else 0)
  else if f = 35 then (if b = 3 then 1 else 0)
  else 0
theorem fargs_le (f : Int) : fargs f ≤ 3 := by unfold fargs; repeat' split
                                               all_goals omega
theorem argsP_le (f b : Int) : argsP f b ≤ 3 := by
  have := fargs_le f
  unfold argsP
  repeat' split
  all_goals omega
/-- The registers that an instruction reads. -/
def readsP (I : Nat → Int) : List Int :=
  if I 0 = 2 ∨ I 0 = 6 ∨ I 0 = 8 then [I 5]
  else if I 0 = 4 ∨ I 0 = 11 then [I 6]
  else if I 0 = 5 then [I 5, I 6, I 7].take (argsP (I 1) (I 2))
  else if I 0 = 7 then [I 5, I 4]
  else if I 0 = 9 then [I 5, I 6]
  else []
def wrB (o : Int) : Bool := decide (o = 1 ∨ o = 2 ∨ o = 3 ∨ o = 5 ∨ o = 6 ∨ o = 7 ∨ o = 8 ∨ o = 9)
/-- The register that an instruction writes. -/
def writI (I : Nat → Int) : Int := if wrB (I 0) then I 4 else 0
/-- Which of the sixteen numbers count. -/
def keeps (I : Nat → Int) : Nat → Bool
  | 0 => true
  | 1 => decide (I 0 = 3 ∨ I 0 = 4 ∨ I 0 = 5 ∨ I 0 = 8)
  | 2 => decide (I 0 = 5 ∨ I 0 = 8)
  | 3 => decide (I 0 = 5 ∨ I 0 = 6 ∨ I 0 = 7 ∨ I 0 = 8)
  | 4 => wrB (I 0)
  | 5 => decide (I 0 = 2 ∨ I 0 = 3 ∨ I 0 = 4 ∨ I 0 = 6 ∨ I 0 = 7 ∨ I 0 = 8 ∨ I 0 = 9 ∨ I 0 = 10 ∨ I 0 = 11) || (decide (I 0 = 5) && decide (1 ≤ argsP (I 1) (I 2)))
  | 6 => decide (I 0 = 4 ∨ I 0 = 9 ∨ I 0 = 11) || (decide (I 0 = 5) && decide (2 ≤ argsP (I 1) (I 2)))
  | 7 => decide (I 0 = 5) && decide (3 ≤ argsP (I 1) (I 2))
  | 8 => decide (I 0 = 1)
  | 9 => decide (I 0 = 1)
  | 10 => decide (I 0 = 1)
  | 11 => decide (I 0 = 1)
  | 12 => decide (I 0 = 6 ∨ I 0 = 7) && decide (0 < I 3)
  | 13 => decide (I 0 = 6 ∨ I 0 = 7) && decide (1 < I 3)
  | 14 => decide (I 0 = 6 ∨ I 0 = 7) && decide (2 < I 3)
  | 15 => decide (I 0 = 6 ∨ I 0 = 7) && decide (3 < I 3)
  | _ => false
def justP (I : Nat → Int) (k : Nat) : Int := if keeps I k then I k else 0
/-- Sixteen numbers, the same. -/
def sameI (I J : Nat → Int) : Bool := I 0 == J 0 && (I 1 == J 1 && (I 2 == J 2 && (I 3 == J 3 && (I 4 == J 4 && (I 5 == J 5 && (I 6 == J 6 && (I 7 == J 7 && (I 8 == J 8 && (I 9 == J 9 && (I 10 == J 10 && (I 11 == J 11 && (I 12 == J 12 && (I 13 == J 13 && (I 14 == J 14 && I 15 == J 15))))))))))))))
def baseB (b : Int) : Bool := b == 1 || (b == 2 || b == 3)
def cntB (n : Int) : Bool := decide (1 ≤ n) && decide (n ≤ 4)
def plcB (I : Nat → Int) : Bool := inB (I 12) 4 && (inB (I 13) 4 && (inB (I 14) 4 && inB (I 15) 4))
/-- Whether a number stands twice. -/
def twB : List Int → Bool
  | [] => false
  | x :: r => r.contains x || twB r
def loadB (C : Cod) (I : Nat → Int) : Bool :=
  if I 1 = 1 then C.stage == 1 && inB (I 5) C.attr
  else if I 1 = 2 then inB (I 5) C.unif
  else if I 1 = 3 then C.stage == 2 && inB (I 5) C.vary
  else if I 1 = 4 ∨ I 1 = 5 ∨ I 1 = 6 then C.stage == 2 && I 5 == 0
  else false
def storB (C : Cod) (I : Nat → Int) : Bool :=
  if I 1 = 1 ∨ I 1 = 2 then C.stage == 1 && I 5 == 0
  else if I 1 = 3 then C.stage == 1 && inB (I 5) C.vary
  else if I 1 = 4 then C.stage == 2 && I 5 == 0
  else false
def plcs (I : Nat → Int) : List Int := [I 12, I 13, I 14, I 15]
/-- Whether the fields that count and name no register may be. -/
def fldB (C : Cod) (n k : Nat) (I : Nat → Int) : Bool :=
  if I 0 = 1 ∨ I 0 = 2 ∨ I 0 = 9 then true
  else if I 0 = 3 then loadB C I
  else if I 0 = 4 then storB C I
  else if I 0 = 5 then decide (0 < argsP (I 1) (I 2)) && cntB (I 3)
  else if I 0 = 6 then cntB (I 3) && plcB I
  else if I 0 = 7 then cntB (I 3) && (plcB I && !twB ((plcs I).take (I 3).toNat))
  else if I 0 = 8 then cntB (I 3) && (baseB (I 2) && baseB (I 1))
  else if I 0 = 10 ∨ I 0 = 11 then decide ((k : Int) < I 5) && decide (I 5 ≤ (n : Int))
  else if I 0 = 12 then C.stage == 2
  else false
def rgsB (C : Cod) (I : Nat → Int) : Bool := (readsP I).all (fun r => inB r C.regs) && (!wrB (I 0) || inB (writI I) C.regs)
/-- May the instruction be at the place k of n? -/
def insB (C : Cod) (n k : Nat) (I : Nat → Int) : Bool := sameI I (justP I) && (rgsB C I && fldB C n k I)
def headB (C : Cod) : Bool :=
  if C.stage = 1 then inB C.regs 1025 && (inB C.attr 9 && (inB C.unif 33 && inB C.vary 5))
  else if C.stage = 2 then inB C.regs 1025 && (inB C.attr 1 && (inB C.unif 33 && inB C.vary 5))
  else false
def zI : Nat → Int := fun _ => 0
/-- May the first m instructions be? -/
def mayTo (C : Cod) (m : Nat) : Bool := (List.range m).all fun k => insB C C.ins.length k (C.ins.getD k zI)
/-- May a code be? -/
def mayP (C : Cod) : Bool := headB C && (decide (C.ins.length ≤ 4096) && mayTo C C.ins.length)
theorem mayTo_succ (C : Cod) (m : Nat) : mayTo C (m + 1) = (mayTo C m && insB C C.ins.length m (C.ins.getD m zI)) := by
  unfold mayTo
  rw [List.range_succ, List.all_append]
  simp
theorem mayTo_false {C : Cod} {k n : Nat} (h : insB C C.ins.length k (C.ins.getD k zI) = false) (hk : k < n) : mayTo C n = false := by
  unfold mayTo
  rw [List.all_eq_false]
  exact ⟨k, List.mem_range.2 hk, by rw [h]; decide⟩
theorem mayTo_at {C : Cod} {k n : Nat} (h : mayTo C n = true) (hk : k < n) : insB C C.ins.length k (C.ins.getD k zI) = true := by
  unfold mayTo at h
  exact List.all_eq_true.1 h k (List.mem_range.2 hk)

/-- Where the instruction at the place k leads to. -/
def nextP (I : Nat → Int) (k : Nat) : List Int :=
  if I 0 = 10 then [I 5] else if I 0 = 11 then [I 5, (k : Int) + 1] else if I 0 = 12 then [] else [(k : Int) + 1]
def markL (r : List Bool) : List Int → List Bool
  | [] => r
  | x :: t => markL (r.set x.toNat true) t
def stepR (r : List Bool) (I : Nat → Int) (k : Nat) : List Bool := if r.getD k false then markL r (nextP I k) else r
/-- What can be come to, the first k instructions done. -/
def reachTo (L : List (Nat → Int)) : Nat → List Bool
  | 0 => (List.replicate (L.length + 1) false).set 0 true
  | k + 1 => stepR (reachTo L k) (L.getD k zI) k
def reachP (L : List (Nat → Int)) : List Bool := reachTo L L.length
theorem markL_len (r : List Bool) (l : List Int) : (markL r l).length = r.length := by
  induction l generalizing r with
  | nil => rfl
  | cons x t ih => rw [markL, ih, List.length_set]
theorem reachTo_len (L : List (Nat → Int)) (k : Nat) : (reachTo L k).length = L.length + 1 := by
  induction k with
  | zero => simp [reachTo]
  | succ k ih =>
    rw [reachTo, stepR]
    split
    · rw [markL_len, ih]
    · exact ih
end Go.Proofs.YtgmahpkhdnabjaaGreat
