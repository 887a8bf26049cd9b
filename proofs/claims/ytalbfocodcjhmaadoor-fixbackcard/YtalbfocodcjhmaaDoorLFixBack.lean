/-
  Proved: FixBack answers true for every two numbers: Parse of Text is the number, One changes nothing, sums and products don't hang on the order, Fract is from 0 on and below One, and what was added is taken away. Its tables of the library (the powers of ten) hold what the program's text lays. No other condition.
-/
import Derived.Test.YtalbfocodcjhmaaDoorFrL
import Derived.Test.YtalbfocodcjhmaaDoorFxW
import Derived.Test.YtalbfocodcjhmaaDoorFxP
namespace Go.Proofs.YtalbfocodcjhmaaDoor
open Go.ChangeShapes Go.WideShapes Go.ChangeAt Go.RowKit
set_option linter.unusedVariables false
set_option linter.unusedSimpArgs false

theorem mul_one_is {a : Int} (h : I32 a) : mulI a 65536 = a := by
  unfold mulI
  rw [show (a * 65536 + 32768) / 65536 = a by omega, rawI_id h]
theorem div_one_is {a : Int} (h : I32 a) : divI a 65536 = a := by
  have e : nearI a 65536 = a.natAbs := by
    unfold nearI
    rw [show ((65536 : Int).natAbs : Int) = 65536 from rfl]
    omega
  unfold divI
  rw [if_neg (by omega), e]
  by_cases h0 : a < 0
  · simp only [h0, decide_true, show ¬ (65536 : Int) < 0 by omega, decide_false, Bool.true_eq_false, if_false]
    rw [show -(a.natAbs : Int) = a by omega, rawI_id h]
  · simp only [h0, decide_false, show ¬ (65536 : Int) < 0 by omega, if_true]
    rw [show (a.natAbs : Int) = a by omega, rawI_id h]
theorem add_comm_is (a b : Int) : addI b a = addI a b := by unfold addI; rw [Int.add_comm]
theorem mul_comm_is (a b : Int) : mulI b a = mulI a b := by unfold mulI; rw [Int.mul_comm]
theorem fract_is {a : Int} (h : I32 a) : fractI a = a - a / 65536 * 65536 := by
  unfold I32 at h
  unfold fractI subI floorI
  exact rawI_id (by unfold I32; omega)
theorem floor_fract {a : Int} (h : I32 a) : addI (floorI a) (fractI a) = a := by
  rw [fract_is h]
  unfold addI floorI
  rw [show a / 65536 * 65536 + (a - a / 65536 * 65536) = a by omega, rawI_id h]

def tameB (x : Int) : Bool := decide (-1073741824 < x) && decide (x < 1073741824)
theorem tame_any (x : Int) (w : World) :
    Calls Tryd.prog 46 #[.int .i32 x] w fun e w' => e = .returned (.bool (tameB x)) ∧ w' = w := by
  go_enter Tryd.func46, Tryd.ntmps46
  unfold tameB
  by_cases h1 : -1073741824 < x
  · have t1 : decide (-1073741824 < x) = true := by simp; omega
    go_wp2
    go_ret
    exact ⟨by simp [t1], rfl⟩
  · have t1 : decide (-1073741824 < x) = false := by simp; omega
    go_wp2
    go_ret
    exact ⟨by simp [t1], rfl⟩
theorem tame_sub {a b : Int} (ha : I32 a) (h1 : tameB a = true) (h2 : tameB b = true) : subI (addI a b) b = a := by
  simp only [tameB, Bool.and_eq_true, decide_eq_true_eq] at h1 h2
  have e : addI a b = a + b := rawI_id (by unfold I32; omega)
  unfold subI
  rw [e, show a + b - b = a by omega, rawI_id ha]

set_option maxHeartbeats 2000000 in
theorem back_walk (a b : Int) (w : World) (ha : I32 a) (hb : I32 b) (hT : Tab w) :
    Calls Tryd.prog 8 #[.int .i32 a, .int .i32 b] w fun e w' => e = .returned (.bool true) ∧ Ext w w' := by
  have T := hide hT
  clear hT
  have hfr := fract_is ha
  have hf : Hid (0 ≤ fractI a ∧ fractI a < 65536) := by show _ ∧ _; rw [hfr]; omega
  clear hfr
  have hP : Hid (parseI (⟨(textL a).toArray⟩ : ByteArray).data.toList = (a, 0)) := parse_text a ha
  go_enter Tryd.func8, Tryd.ntmps8
  go_wp2_with fail
  refine (wakes_any _ (unhide T)).mono ?_
  rintro e w1 ⟨rfl, hx1⟩
  have X := hide hx1
  clear hx1
  go_wp2_with fail
  refine (text_any _ _ ha ((unhide T).ext (unhide X))).mono ?_
  rintro e w2 ⟨rfl, hx2⟩
  have X2 := hide ((unhide X).trans hx2)
  clear hx2 X
  go_wp2_with fail
  refine (parse_any _ _).mono ?_
  rintro e w3 ⟨rfl, hx3⟩
  rw [unhide hP]
  have X3 := hide ((unhide X2).trans hx3)
  clear hx3 X2
  go_wp2_with fail
  refine (mul_any _ _ _ ha (by unfold I32; omega)).mono ?_
  rintro e w1 ⟨rfl, rfl⟩
  rw [mul_one_is ha]
  go_wp2_with fail
  refine (div_any _ _ _ ha (by unfold I32; omega)).mono ?_
  rintro e w1 ⟨rfl, rfl⟩
  rw [div_one_is ha]
  go_wp2_with fail
  refine (add_any _ _ _ ha hb).mono ?_
  rintro e w1 ⟨rfl, rfl⟩
  go_wp2_with fail
  refine (add_any _ _ _ hb ha).mono ?_
  rintro e w1 ⟨rfl, rfl⟩
  rw [add_comm_is a b]
  go_wp2_with fail
  refine (mul_any _ _ _ ha hb).mono ?_
  rintro e w1 ⟨rfl, rfl⟩
  go_wp2_with fail
  refine (mul_any _ _ _ hb ha).mono ?_
  rintro e w1 ⟨rfl, rfl⟩
  rw [mul_comm_is a b]
  go_wp2_with fail
  refine (fract_any _ _ ha).mono ?_
  rintro e w1 ⟨rfl, rfl⟩
  have f1 : decide (fractI a < 0) = false := by have := unhide hf; simp; omega
  have f2 : decide (65536 ≤ fractI a) = false := by have := unhide hf; simp; omega
  have hfi : I32 (fractI a) := by have := unhide hf; unfold I32; omega
  go_wp2_with fail
  refine (floor_any _ _ ha).mono ?_
  rintro e w1 ⟨rfl, rfl⟩
  go_wp2_with fail
  refine (add_any _ _ _ (floorI_i32 ha) hfi).mono ?_
  rintro e w1 ⟨rfl, rfl⟩
  rw [floor_fract ha]
  go_wp2_with fail
  refine (tame_any _ _).mono ?_
  rintro e w1 ⟨rfl, rfl⟩
  cases h1 : tameB a
  · go_wp2
    go_ret
    exact ⟨by simp, unhide X3⟩
  · go_wp2_with fail
    refine (tame_any _ _).mono ?_
    rintro e w1 ⟨rfl, rfl⟩
    cases h2 : tameB b
    · go_wp2
      go_ret
      exact ⟨by simp, unhide X3⟩
    · have hs := hide (tame_sub ha h1 h2)
      go_wp2_with fail
      refine (add_any _ _ _ ha hb).mono ?_
      rintro e w1 ⟨rfl, rfl⟩
      go_wp2_with fail
      refine (sub_any _ _ _ (addI_i32 a b) hb).mono ?_
      rintro e w1 ⟨rfl, rfl⟩
      rw [unhide hs]
      go_wp2
      go_ret
      exact ⟨by simp, unhide X3⟩

theorem back_owes (H : Type) (enc : TypeId × Value → H) (W : World) (base : Nat) (args : Array Value) (ds : List (DataW H)) (p : List MemPlace) : OwesL H enc Tryd.prog 8 Tryd.f8 Rows.fixBackSpec laidL W base args ds p := by
  intro hval hA hsz hL
  have hT := tab_of_laid hL
  clear hL
  rw [Tryd.params8] at hA hval hsz
  obtain ⟨v0, vs0, d0, ds0, p0, q0, hargs, rfl, rfl, h0, r0⟩ := trodAll_cons hA
  obtain ⟨v1, vs1, d1, ds1, p1, q1, rfl, rfl, rfl, h1, r1⟩ := trodAll_cons r0
  obtain ⟨rfl, rfl, rfl⟩ := trodAll_nil r1
  obtain rfl : args = #[v0, v1] := by cases args; simp_all
  obtain ⟨a, rfl, rfl, rfl, wa⟩ := open_int Tryd.underlying22 (hval 0 22 v0 rfl rfl) h0
  obtain ⟨b, rfl, rfl, rfl, wb⟩ := open_int Tryd.underlying22 (hval 1 22 v1 rfl rfl) h1
  exact ⟨⟨rfl, rfl, rfl⟩, back_walk a b W (bounds_i32 wa) (bounds_i32 wb) hT⟩

set_option maxRecDepth 100000 in
theorem back_lifted (os : Os) (started : os.Started) (H : Type) (enc : TypeId × Value → H) :
    ReturnsInHanded {} Tryd.checked os 8 .any (fun w args => (Rows.fixBackSpec.pre enc Tryd.prog Tryd.f8 Rows.fixBackRow.domain false w args ∧ laidMetH Tryd.prog Rows.fixBackRow.laid w) ∧ sizedMet enc Tryd.prog Tryd.f8 (OpenSpec.ofChange Rows.fixBackSpec) false w args) (Rows.fixBackSpec.post enc Tryd.prog Tryd.f8 false true false false) :=
  lift_law_laid (C := Tryd.checked) (laid := laidL) own laidOut started (by kernel_rfl) Tryd.func8 (T := 4) rfl Tryd.underlying4 rfl (by kernel_rfl)
    (ChangeSpec.witness_shaped (enc := enc) (C := Tryd.checked) (os := os) (X := fun w _ => laidMetH Tryd.prog laidL w) false (World.laidAll Tryd.prog os laidL) #[.int .i32 0, .int .i32 0] 8 (World.laidAll_os _ _ _)
      (World.shaped_of_ZipB (by kernel_rfl) (by kernel_rfl)) (by kernel_rfl) (by kernel_rfl) (by kernel_rfl) (laid_fits os _)) (back_owes H enc)

theorem fixBack_row : Rows.FixBackSaid :=
  OpenClaim.holds_of_wide 8 Tryd.f8 rfl rfl rfl rfl rfl rfl rfl ⟨rfl, rfl, rfl, rfl, rfl⟩ rfl rfl rfl rfl rfl (by kernel_rfl) Tryd.func8 (by kernel_rfl)
    (of_decide_eq_true (by kernel_rfl)) (by unfold Func.isWrapper; rw [if_neg (of_decide_eq_false (by kernel_rfl))]; exact ⟨rfl, rfl⟩)
    (fun os started H enc _ => back_lifted os started H enc)

theorem fixBack_plain (f : FuncId) (fn : Func) (hf : Tryd.pinned.checked.prog.funcNamed "paintbox/paintboxlaw02.FixBack" = some f) (hfn : Tryd.pinned.checked.prog.funcs[f]? = some fn) :
    false = Tryd.pinned.checked.prog.looks [] ∧ ∀ (j : Nat) t, fn.params[j]? = some t → Tryd.pinned.checked.prog.wantsStandIn t = false := by
  obtain rfl : f = 8 := Option.some.inj ((show Tryd.prog.funcNamed "paintbox/paintboxlaw02.FixBack" = some 8 by kernel_rfl).symm.trans hf) |>.symm
  obtain rfl : fn = Tryd.f8 := (Option.some.inj (Tryd.func8.symm.trans hfn)).symm
  refine ⟨by kernel_rfl, fun j t ht => ?_⟩
  rw [Tryd.params8] at ht
  have hm : t ∈ [22, 22] := by simpa using Array.mem_of_getElem? ht
  have hall : ([22, 22].all fun u => !Tryd.prog.wantsStandIn u) = true := by kernel_rfl
  exact (show Tryd.prog.wantsStandIn t = false by simpa using List.all_eq_true.1 hall t hm)

theorem fixBack_holds : Rows.FixBackCardSaid :=
  Claim7.holds_tied_plain_at .later [] _ _ _ _ fixBack_row (fun _ h => by cases h) (by kernel_rfl) (fun _ h => by cases h) fixBack_row_tie rfl ⟨rfl, rfl⟩ (by kernel_rfl) rfl fixBack_plain (by kernel_rfl)
#print axioms fixBack_holds
end Go.Proofs.YtalbfocodcjhmaaDoor
