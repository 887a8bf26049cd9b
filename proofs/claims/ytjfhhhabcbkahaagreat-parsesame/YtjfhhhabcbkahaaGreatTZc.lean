/-
  What can't stand there leaves by a deferred call: the closure of read.
-/
import Derived.Test.YtjfhhhabcbkahaaGreatTZ
import Derived.Recover
namespace Go.Proofs.YtjfhhhabcbkahaaGreat
open Go.RowKit
set_option linter.unusedVariables false
set_option linter.unusedSimpArgs false

section
variable {w : World} {pb : Nat} {L : List Tok} {tv lv : Value} {i : Nat}
set_option maxHeartbeats 1000000 in
set_option maxRecDepth 100000 in
theorem catch_pan (pv ra sa : Nat) (u : TypeId) (x : Value) (older : List PanicEntry) (h : PE w pb L tv lv i) (hne : 0 < L.length) (hi : i ≤ L.length) (hL : L.length ≤ 1000000000)
    (hv : Blk w pv #[.pointer (some ⟨pb, 0, none⟩)] 68) (hr : Blk w ra #[.pointer none] 53) (hs : Blk w sa #[.int .i64 0, .int .i64 0] 31) (hrs : ra ≠ sa) :
    CallsD Tryz.prog 41 #[.pointer (some ⟨pv, 0, none⟩), .pointer (some ⟨ra, 0, none⟩), .pointer (some ⟨sa, 0, none⟩)] (.panicking ({ v := .iface u x, recovered := false } :: older)) w fun e u' w' =>
      e = .returned (.tuple #[]) ∧ u' = .panicking ({ v := .iface u x, recovered := true } :: older) ∧ ∃ w1, Ext w w1 ∧ w' = ((w1.setCell ⟨ra, 0, none⟩ (.pointer none)).setCell ⟨sa, 0, none⟩ (.int .i64 220)).setCell ⟨sa, 1, none⟩ (.int .i64 (hereP L i)) := by
  have HE := hide (here_any h hne hi hL)
  have v0 := hv.cell (i := 0) (v := .pointer (some ⟨pb, 0, none⟩)) rfl
  refine callsD_of_wpS Tryz.func41 rfl fun c₀ cs hu => ?_
  apply wpS_seq
  apply wpS_region
  simp [wpOpsS, go_sem, recoverD, hu, Tryz.ntmps41, Exit.thenS]
  refine wpS_cond (t := true) (by simp [Act.eval, Array.replicate]) ?_
  simp only [if_true]
  rw [show (#[.pointer (some ⟨pv, 0, none⟩), .pointer (some ⟨ra, 0, none⟩), .pointer (some ⟨sa, 0, none⟩)] ++ ((Array.replicate 5 undef).setIfInBounds 0 (Value.iface u x)).setIfInBounds 1 (Value.bool true)) = #[.pointer (some ⟨pv, 0, none⟩), .pointer (some ⟨ra, 0, none⟩), .pointer (some ⟨sa, 0, none⟩), Value.iface u x, Value.bool true, undef, undef, undef] from rfl]
  refine wpS_of_wp ?_
  have HR := hide hr
  have HS := hide hs
  clear h hr hs hv
  go_wp2_with fail
  refine (unhide HE).mono ?_
  rintro e w1 ⟨rfl, hx⟩
  have r0 := ((unhide HR).ext hx).cell (i := 0) (v := .pointer none) rfl
  have f0 := fun j => ((unhide HR).ext hx).free j
  have HS1 := hide (((unhide HS).ext hx).other (r := ra) 0 (.pointer none) (Ne.symm hrs))
  have s0 := (unhide HS1).cell (i := 0) (v := .int .i64 0) rfl
  have s1 := (unhide HS1).cell (i := 1) (v := .int .i64 0) rfl
  have fs := fun j => (unhide HS1).free j
  have HX := hide hx
  clear hx v0
  go_wp2
  simp [bodyPostS, results, Tryz.results41]
  exact ⟨w1, unhide HX, rfl⟩
theorem catch_idle (a b c : Value) (w : World) : CallsD Tryz.prog 41 #[a, b, c] .returning w fun e u' w' => e = .returned (.tuple #[]) ∧ u' = .returning ∧ w' = w := by
  refine callsD_of_wpS Tryz.func41 rfl fun c₀ cs hu => ?_
  apply wpS_seq
  apply wpS_region
  simp [wpOpsS, go_sem, recoverD, hu, Tryz.ntmps41, Exit.thenS]
  refine wpS_cond (t := false) (by simp [Act.eval, Array.replicate]) ?_
  simp only [Bool.false_eq_true, if_false]
  refine wpS_of_wp (wp_skip ?_)
  cases c₀
  simp_all [bodyPostS, results, Tryz.results41]
end
end Go.Proofs.YtjfhhhabcbkahaaGreat
