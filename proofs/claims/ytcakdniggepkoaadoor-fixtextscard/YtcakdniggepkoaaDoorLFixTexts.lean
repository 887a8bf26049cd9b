/-
  Proved: FixTexts answers true for every number and every text (its first 60 bytes): Text writes, and Parse reads, what the document says. Its tables of the library (the powers of ten) hold what the program's text lays. No other condition.
-/
import Derived.Test.YtcakdniggepkoaaDoorFrL
import Derived.Test.YtcakdniggepkoaaDoorFxW
import Derived.Test.YtcakdniggepkoaaDoorFxQ
import Derived.Test.YtcakdniggepkoaaDoorFxV
namespace Go.Proofs.YtcakdniggepkoaaDoor
open Go.ChangeShapes Go.WideShapes Go.ChangeAt Go.RowKit
open Go.ChangeMaps (open_string shut_string)
set_option linter.unusedVariables false
set_option linter.unusedSimpArgs false

theorem parse_list (l : List UInt8) (w : World) :
    Calls Tryd.prog 5 #[.string ⟨l.toArray⟩] w fun e w' => e = .returned (.tuple #[.int .i32 (parseI l).1, .int .i64 (parseI l).2]) ∧ Ext w w' := by
  have h := parse_any ⟨l.toArray⟩ w
  exact h

set_option maxHeartbeats 2000000 in
theorem texts_walk (x : Int) (l : List UInt8) (w : World) (hx : I32 x) (hT : Tab w) :
    Calls Tryd.prog 3 #[.int .i32 x, .string ⟨l.toArray⟩] w fun e w' => e = .returned (.bool true) ∧ Ext w w' := by
  have T := hide hT
  clear hT
  have hls : (⟨l.toArray⟩ : ByteArray).size = l.length := Lib.size_mk _
  go_enter Tryd.func3, Tryd.ntmps3
  go_wp2_with fail
  refine (wakes_any _ (unhide T)).mono ?_
  rintro e w1 ⟨rfl, hx1⟩
  have X := hide hx1
  clear hx1
  by_cases h60 : 60 < l.length
  · have t60 : decide ((60 : Int) < (l.length : Int)) = true := by simp; omega
    have hex : (⟨l.toArray⟩ : ByteArray).extract 0 60 = ⟨(l.take 60).toArray⟩ := by rw [Lib.extract_mk]; rfl
    go_wp2_with fail
    refine (parse_list (l.take 60) _).mono ?_
    rintro e w2 ⟨rfl, hx2⟩
    have X2 := hide ((unhide X).trans hx2)
    clear hx2 X
    go_wp2_with fail
    refine (refParse_any (l.take 60) _).mono ?_
    rintro e w3 ⟨rfl, hx3⟩
    have X3 := hide ((unhide X2).trans hx3)
    clear hx3 X2
    generalize (parseI (l.take 60)).1 = y at *
    generalize (parseI (l.take 60)).2 = er at *
    go_wp2_with fail
    refine (text_any _ _ hx ((unhide T).ext (unhide X3))).mono ?_
    rintro e w4 ⟨rfl, hx4⟩
    have X4 := hide ((unhide X3).trans hx4)
    clear hx4 X3
    go_wp2_with fail
    refine (refText_any _ _ hx).mono ?_
    rintro e w5 ⟨rfl, rfl⟩
    go_wp2
    go_ret
    exact ⟨by simp, unhide X4⟩
  · have t60 : decide ((60 : Int) < (l.length : Int)) = false := by simp; omega
    go_wp2_with fail
    refine (parse_list (l) _).mono ?_
    rintro e w2 ⟨rfl, hx2⟩
    have X2 := hide ((unhide X).trans hx2)
    clear hx2 X
    go_wp2_with fail
    refine (refParse_any (l) _).mono ?_
    rintro e w3 ⟨rfl, hx3⟩
    have X3 := hide ((unhide X2).trans hx3)
    clear hx3 X2
    generalize (parseI (l)).1 = y at *
    generalize (parseI (l)).2 = er at *
    go_wp2_with fail
    refine (text_any _ _ hx ((unhide T).ext (unhide X3))).mono ?_
    rintro e w4 ⟨rfl, hx4⟩
    have X4 := hide ((unhide X3).trans hx4)
    clear hx4 X3
    go_wp2_with fail
    refine (refText_any _ _ hx).mono ?_
    rintro e w5 ⟨rfl, rfl⟩
    go_wp2
    go_ret
    exact ⟨by simp, unhide X4⟩

theorem texts_owes (H : Type) (enc : TypeId × Value → H) (W : World) (base : Nat) (args : Array Value) (ds : List (DataW H)) (p : List MemPlace) : OwesL H enc Tryd.prog 3 Tryd.f3 Rows.fixTextsSpec laidL W base args ds p := by
  intro hval hA hsz hL
  have hT := tab_of_laid hL
  clear hL
  rw [Tryd.params3] at hA hval hsz
  obtain ⟨v0, vs0, d0, ds0, p0, q0, hargs, rfl, rfl, h0, r0⟩ := trodAll_cons hA
  obtain ⟨v1, vs1, d1, ds1, p1, q1, rfl, rfl, rfl, h1, r1⟩ := trodAll_cons r0
  obtain ⟨rfl, rfl, rfl⟩ := trodAll_nil r1
  obtain rfl : args = #[v0, v1] := by cases args; simp_all
  obtain ⟨x, rfl, rfl, rfl, wx⟩ := open_int Tryd.underlying22 (hval 0 22 v0 rfl rfl) h0
  obtain ⟨s, rfl, rfl, rfl, ws⟩ := open_string Tryd.underlying9 (hval 1 9 v1 rfl rfl) h1
  have hw := texts_walk x s.data.toList W (bounds_i32 wx) hT
  exact ⟨⟨rfl, rfl, rfl⟩, by simpa using hw⟩

set_option maxRecDepth 100000 in
theorem texts_lifted (os : Os) (started : os.Started) (H : Type) (enc : TypeId × Value → H) :
    ReturnsInHanded {} Tryd.checked os 3 .any (fun w args => (Rows.fixTextsSpec.pre enc Tryd.prog Tryd.f3 Rows.fixTextsRow.domain false w args ∧ laidMetH Tryd.prog Rows.fixTextsRow.laid w) ∧ sizedMet enc Tryd.prog Tryd.f3 (OpenSpec.ofChange Rows.fixTextsSpec) false w args) (Rows.fixTextsSpec.post enc Tryd.prog Tryd.f3 false true false false) :=
  lift_law_laid (C := Tryd.checked) (laid := laidL) own laidOut started (by kernel_rfl) Tryd.func3 (T := 4) rfl Tryd.underlying4 rfl (by kernel_rfl)
    (ChangeSpec.witness_shaped (enc := enc) (C := Tryd.checked) (os := os) (X := fun w _ => laidMetH Tryd.prog laidL w) false (World.laidAll Tryd.prog os laidL) #[.int .i32 0, .string ⟨#[]⟩] 8 (World.laidAll_os _ _ _)
      (World.shaped_of_ZipB (by kernel_rfl) (by kernel_rfl)) (by kernel_rfl) (by kernel_rfl) (by kernel_rfl) (laid_fits os _)) (texts_owes H enc)

theorem fixTexts_row : Rows.FixTextsSaid :=
  OpenClaim.holds_of_wide 3 Tryd.f3 rfl rfl rfl rfl rfl rfl rfl ⟨rfl, rfl, rfl, rfl, rfl⟩ rfl rfl rfl rfl rfl (by kernel_rfl) Tryd.func3 (by kernel_rfl)
    (of_decide_eq_true (by kernel_rfl)) (by unfold Func.isWrapper; rw [if_neg (of_decide_eq_false (by kernel_rfl))]; exact ⟨rfl, rfl⟩)
    (fun os started H enc _ => texts_lifted os started H enc)

theorem fixTexts_plain (f : FuncId) (fn : Func) (hf : Tryd.pinned.checked.prog.funcNamed "paintbox/paintboxlaw02.FixTexts" = some f) (hfn : Tryd.pinned.checked.prog.funcs[f]? = some fn) :
    false = Tryd.pinned.checked.prog.looks [] ∧ ∀ (j : Nat) t, fn.params[j]? = some t → Tryd.pinned.checked.prog.wantsStandIn t = false := by
  obtain rfl : f = 3 := Option.some.inj ((show Tryd.prog.funcNamed "paintbox/paintboxlaw02.FixTexts" = some 3 by kernel_rfl).symm.trans hf) |>.symm
  obtain rfl : fn = Tryd.f3 := (Option.some.inj (Tryd.func3.symm.trans hfn)).symm
  refine ⟨by kernel_rfl, fun j t ht => ?_⟩
  rw [Tryd.params3] at ht
  have hm : t ∈ [22, 9] := by simpa using Array.mem_of_getElem? ht
  have hall : ([22, 9].all fun u => !Tryd.prog.wantsStandIn u) = true := by kernel_rfl
  exact (show Tryd.prog.wantsStandIn t = false by simpa using List.all_eq_true.1 hall t hm)

theorem fixTexts_holds : Rows.FixTextsCardSaid :=
  Claim7.holds_tied_plain_at .later [] _ _ _ _ fixTexts_row (fun _ h => by cases h) (by kernel_rfl) (fun _ h => by cases h) fixTexts_row_tie rfl ⟨rfl, rfl⟩ (by kernel_rfl) rfl fixTexts_plain (by kernel_rfl)
#print axioms fixTexts_holds
end Go.Proofs.YtcakdniggepkoaaDoor
