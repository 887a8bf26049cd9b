/-
  PrePlain: a text that says nothing to this layer is told as lex tells it; for every text. The library's tables are laid as the program's text lays them.
-/
import Derived.Test.YtinnikggaflpdaaDoorZH
import Derived.Test.YtinnikggaflpdaaDoorZJ
import Derived.Test.YtinnikggaflpdaaDoorFrP
import Derived.ChangeMaps5
namespace Go.Proofs.YtinnikggaflpdaaDoor
open Go.ChangeShapes Go.WideShapes Go.ChangeAt Go.RowKit
open Go.ChangeMaps (open_string)
set_option linter.unusedSimpArgs false
set_option linter.unusedVariables false

set_option maxHeartbeats 4000000 in
set_option maxRecDepth 100000 in
theorem prePlain_any (s : ByteArray) (W : World) (m : Int) (hS : Std W m) :
    Calls Tryd.prog 6 #[.string s] W fun e w' => e = .returned (.bool true) ∧ Ext W w' := by
  have HS := hide hS
  clear hS
  go_enter Tryd.func6, Tryd.ntmps6
  go_wp2_with fail
  refine (wakes11_any W m (unhide HS)).mono ?_
  rintro e w1 ⟨rfl, hx1⟩
  have X1 := hide hx1
  clear hx1
  have HPL := hide (plain_any s w1 m ((unhide HS).ext (unhide X1)).1)
  cases hpl : plainB s.data.toList with
  | false =>
    rw [hpl] at HPL
    go_wp2_with fail
    refine (unhide HPL).mono ?_
    rintro e w2 ⟨rfl, hx2⟩
    have X2 := hide ((unhide X1).trans hx2)
    clear hx2
    go_wp2
    go_ret
    exact ⟨rfl, unhide X2⟩
  | true =>
    rw [hpl] at HPL
    have hrun : runP s.data.toList = lexP s.data.toList := by
      unfold plainB at hpl
      rw [Bool.and_eq_true, List.all_eq_true] at hpl
      exact run_plain _ (of_decide_eq_true hpl.2) hpl.1
    obtain ⟨R, hR⟩ : ∃ R, lexP s.data.toList = R := ⟨_, rfl⟩
    have HRN := hide hrun
    have HRR := hide hR
    clear hpl hrun hR
    go_wp2_with fail
    refine (unhide HPL).mono ?_
    rintro e w2 ⟨rfl, hx2⟩
    have X2 := hide ((unhide X1).trans hx2)
    have HRU := run2_any s w2 m ((unhide HS).ext (unhide X2))
    rw [unhide HRN, unhide HRR] at HRU
    have HRUN := hide HRU
    clear hx2 HRU HPL
    go_wp2_with fail
    refine (unhide HRUN).mono ?_
    rintro e w3 ⟨ao3, ca3, rfl, hO3, hx3⟩
    have HT3 := hide (hO3.tr.ext ((Ext.refl w3).alloc (.cells #[.int .i64 R.2.1, .int .i64 R.2.2] 26)))
    have HB3 := hide (Blk.new w3 #[.int .i64 R.2.1, .int .i64 R.2.2] 26)
    have X4 := hide (((unhide X2).trans hx3).alloc (.cells #[.int .i64 R.2.1, .int .i64 R.2.2] 26))
    obtain ⟨w4, hw4⟩ : ∃ w4, w4 = w3.alloc (.cells #[.int .i64 R.2.1, .int .i64 R.2.2] 26) := ⟨_, rfl⟩
    obtain ⟨b3, hb3⟩ : ∃ b3, b3 = w3.heap.size := ⟨_, rfl⟩
    rw [← hw4] at HT3 HB3 X4
    rw [← hb3] at HB3
    have HLX := lex_any s w4 m ((unhide HS).ext (unhide X4)).1
    rw [unhide HRR] at HLX
    have HLXX := hide HLX
    clear hO3 hx3 HLX HRUN
    go_wp2_with fail
    rw [← hw4, ← hb3]
    clear hw4 hb3
    refine (unhide HLXX).mono ?_
    rintro e w5 ⟨ao5, ca5, rfl, hO5, hx5⟩
    have HT6 := hide (((unhide HT3).ext hx5).ext ((Ext.refl w5).alloc (.cells #[.int .i64 R.2.1, .int .i64 R.2.2] 26)))
    have HB6 := hide (((unhide HB3).ext hx5).alloc (.cells #[.int .i64 R.2.1, .int .i64 R.2.2] 26))
    have HU6 := hide (hO5.tr.ext ((Ext.refl w5).alloc (.cells #[.int .i64 R.2.1, .int .i64 R.2.2] 26)))
    have HV6 := hide (Blk.new w5 #[.int .i64 R.2.1, .int .i64 R.2.2] 26)
    have X6 := hide (((unhide X4).trans hx5).alloc (.cells #[.int .i64 R.2.1, .int .i64 R.2.2] 26))
    have c0 := (unhide HB6).cell (i := 0) (v := .int .i64 R.2.1) rfl
    have c1 := (unhide HB6).cell (i := 1) (v := .int .i64 R.2.2) rfl
    have d0 := (unhide HV6).cell (i := 0) (v := .int .i64 R.2.1) rfl
    have d1 := (unhide HV6).cell (i := 1) (v := .int .i64 R.2.2) rfl
    have HSM := hide (same11 R.1 ao3 ao5 ca3 ca5 _ (unhide HT6) (unhide HU6))
    clear hO5 hx5 HLXX
    go_wp2_with fail
    refine (unhide HSM).mono ?_
    rintro e w7 ⟨rfl, hx7⟩
    have X7 := hide ((unhide X6).trans hx7)
    clear hx7
    go_wp2
    go_ret
    exact ⟨rfl, unhide X7⟩

set_option maxRecDepth 100000 in
theorem prePlain_owes (H : Type) (enc : TypeId × Value → H) (W : World) (base : Nat) (args : Array Value) (ds : List (DataW H)) (p : List MemPlace) : OwesP H enc Tryd.prog 6 Tryd.f6 Rows.prePlainSpec laidL W base args ds p := by
  intro hval hA hsz hL hsh
  have hT := tab_of_laid hL
  clear hL
  rw [Tryd.params6] at hA hval hsz
  obtain ⟨v0, vs0, d0, ds0, p0, q0, hargs, rfl, rfl, h0, r0⟩ := trodAll_cons hA
  obtain ⟨rfl, rfl, rfl⟩ := trodAll_nil r0
  obtain rfl : args = #[v0] := by cases args; simp_all
  obtain ⟨s, rfl, rfl, rfl, ws⟩ := open_string Tryd.underlying9 (hval 0 9 v0 rfl rfl) h0
  obtain ⟨m, hm⟩ := Tryd.laysM143.s1_3 W hsh
  exact ⟨⟨rfl, rfl, rfl⟩, prePlain_any s W m ⟨hm, hT⟩⟩

set_option maxRecDepth 100000 in
theorem prePlain_lifted (os : Os) (started : os.Started) (H : Type) (enc : TypeId × Value → H) :
    ReturnsInHanded {} Tryd.checked os 6 .any (fun w args => (Rows.prePlainSpec.pre enc Tryd.prog Tryd.f6 Rows.prePlainRow.domain false w args ∧ laidMetH Tryd.prog Rows.prePlainRow.laid w) ∧ sizedMet enc Tryd.prog Tryd.f6 (OpenSpec.ofChange Rows.prePlainSpec) false w args) (Rows.prePlainSpec.post enc Tryd.prog Tryd.f6 false true false false) :=
  lift_law_both (C := Tryd.checked) (laid := laidL) own laidOut started (by kernel_rfl) Tryd.func6 (T := 4) rfl Tryd.underlying4 rfl (by kernel_rfl)
    (ChangeSpec.witness_shaped (enc := enc) (C := Tryd.checked) (os := os) (X := fun w _ => laidMetH Tryd.prog laidL w) false (World.laidAll Tryd.prog os laidL) #[.string ⟨#[]⟩] 8 (World.laidAll_os _ _ _)
      (World.shaped_of_ZipB (by kernel_rfl) (by kernel_rfl)) (by kernel_rfl) (by kernel_rfl) (by kernel_rfl) (laid_fits os _)) (prePlain_owes H enc)

theorem prePlain_row : Rows.PrePlainSaid :=
  OpenClaim.holds_of_wide 6 Tryd.f6 rfl rfl rfl rfl rfl rfl rfl ⟨rfl, rfl, rfl, rfl, rfl⟩ rfl rfl rfl rfl rfl (by kernel_rfl) Tryd.func6 (by kernel_rfl)
    (of_decide_eq_true (by kernel_rfl)) (by unfold Func.isWrapper; rw [if_neg (of_decide_eq_false (by kernel_rfl))]; exact ⟨rfl, rfl⟩)
    (fun os started H enc _ => prePlain_lifted os started H enc)

theorem prePlain_plain (f : FuncId) (fn : Func) (hf : Tryd.pinned.checked.prog.funcNamed "paintbox/paintboxlaw11.PrePlain" = some f) (hfn : Tryd.pinned.checked.prog.funcs[f]? = some fn) :
    false = Tryd.pinned.checked.prog.looks [] ∧ ∀ (j : Nat) t, fn.params[j]? = some t → Tryd.pinned.checked.prog.wantsStandIn t = false := by
  obtain rfl : f = 6 := Option.some.inj ((show Tryd.prog.funcNamed "paintbox/paintboxlaw11.PrePlain" = some 6 by kernel_rfl).symm.trans hf) |>.symm
  obtain rfl : fn = Tryd.f6 := (Option.some.inj (Tryd.func6.symm.trans hfn)).symm
  refine ⟨by kernel_rfl, fun j t ht => ?_⟩
  rw [Tryd.params6] at ht
  have hm : t ∈ [9] := by simpa using Array.mem_of_getElem? ht
  have hall : ([9].all fun u => !Tryd.prog.wantsStandIn u) = true := by kernel_rfl
  exact (show Tryd.prog.wantsStandIn t = false by simpa using List.all_eq_true.1 hall t hm)

theorem prePlain_holds : Rows.PrePlainCardSaid :=
  Claim7.holds_tied_plain_at .later [] _ _ _ _ prePlain_row (fun _ h => by cases h) (by kernel_rfl) (fun _ h => by cases h) prePlain_row_tie rfl ⟨rfl, rfl⟩ (by kernel_rfl) rfl prePlain_plain (by kernel_rfl)
#print axioms prePlain_holds
end Go.Proofs.YtinnikggaflpdaaDoor
