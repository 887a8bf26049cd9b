/-
  PreFresh: which words may be defined is as the document says, and such a word is defined, if nobody has it; for every text. The library's tables are laid as the program's text lays them.
-/
import Derived.Test.YtgcliklpbahfaaaDoorZKJ
import Derived.Test.YtgcliklpbahfaaaDoorYB
import Derived.Test.YtgcliklpbahfaaaDoorShelfB
import Derived.Test.YtgcliklpbahfaaaDoorFrP
import Derived.ChangeMaps5
namespace Go.Proofs.YtgcliklpbahfaaaDoor
open Go.ChangeShapes Go.WideShapes Go.ChangeAt Go.RowKit
open Go.ChangeMaps (open_string)
set_option linter.unusedSimpArgs false
set_option linter.unusedVariables false

theorem ba_back (s : ByteArray) : (⟨s.data.toList.toArray⟩ : ByteArray) = s := by cases s; simp
theorem fresh_kept (t : Byts8) : freshP t = (isWordL (lexP t).1 && ((hd0 (lexP t).1).text == t) && !keptP t) := by
  unfold freshP keptP
  rw [Bool.not_or, ← Bool.and_assoc]
theorem strTxt {a b : Byts8} (h : (⟨a.toArray⟩ : ByteArray) = ⟨b.toArray⟩) : a = b := by
  have := congrArg (fun x : ByteArray => x.data.toList) h
  simpa using this

set_option maxHeartbeats 4000000 in
set_option maxRecDepth 100000 in
theorem preFresh_any (t : Byts8) (W : World) (m : Int) (hS : Std W m) :
    Calls Tryd.prog 4 #[.string ⟨t.toArray⟩] W fun e w' => e = .returned (.bool true) ∧ Ext W w' := by
  have HS := hide hS
  clear hS
  go_enter Tryd.func4, Tryd.ntmps4
  go_wp2_with fail
  refine (wakes11_any W m (unhide HS)).mono ?_
  rintro e w1 ⟨rfl, hx1⟩
  have X1 := hide hx1
  clear hx1
  have HLX0 := refLex_any ⟨t.toArray⟩ w1
  rw [show (⟨t.toArray⟩ : ByteArray).data.toList = t from rfl] at HLX0
  have hfk := fresh_kept t
  have hl8 : (lexP t).1.length = 1 → t.length ≤ 8192 := fun h => by
    refine Nat.le_of_not_lt fun hl => ?_
    unfold lexP at h
    rw [if_pos hl] at h
    cases h
  have hform : (lexP t).2.1 ≠ 0 → (lexP t).1 = [] := by
    unfold lexP
    split
    · intro _; rfl
    · exact (lexA_form _ 0 0 0).2
  obtain ⟨R, hR⟩ : ∃ R, lexP t = R := ⟨_, rfl⟩
  rw [hR] at HLX0 hfk hl8 hform
  have HFK := hide hfk
  have HL8 := hide hl8
  have HFO := hide hform
  have HLX := hide HLX0
  clear hR hfk hl8 hform HLX0
  go_wp2_with fail
  refine (unhide HLX).mono ?_
  rintro e w2 ⟨ao, cap, rfl, hO, hx2⟩
  obtain ⟨w3, hw3⟩ : ∃ w3, w3 = w2.alloc (.cells #[.int .i64 R.2.1, .int .i64 R.2.2] 26) := ⟨_, rfl⟩
  obtain ⟨sb, hsb⟩ : ∃ sb, sb = w2.heap.size := ⟨_, rfl⟩
  have X3 : Hid (Ext W w3) := by rw [hw3]; exact ((unhide X1).trans hx2).alloc _
  have HT3 : Hid (TR w3 (.slice ao R.1.length cap) R.1) := by rw [hw3]; exact hO.tr.ext ((Ext.refl w2).alloc _)
  have HB3 : Hid (Blk w3 sb #[.int .i64 R.2.1, .int .i64 R.2.2] 26) := by rw [hw3, hsb]; exact Blk.new _ _ _
  have HFR0 := fresh_any t w3 m ((unhide HS).ext (unhide X3)).1
  have s0 := (unhide HB3).cell (i := 0) (v := .int .i64 R.2.1) rfl
  have HW3 := hide hw3
  have HSB := hide hsb
  rw [unhide HW3, unhide HSB] at s0
  clear hO hx2 hw3 hsb HLX
  by_cases hr : ¬ R.2.1 = 0
  · have q0 : (R.2.1 == 0) = false := beq_eq_false_iff_ne.2 hr
    have hf : freshP t = false := by rw [unhide HFK, unhide HFO hr]; rfl
    rw [hf] at HFR0
    have HFR := hide HFR0
    clear HFR0 hf
    go_wp2_with fail
    rw [← unhide HW3]
    refine (unhide HFR).mono ?_
    rintro e w4 ⟨rfl, hx4⟩
    have X4 := hide ((unhide X3).trans hx4)
    clear hx4
    go_wp2
    go_ret
    exact ⟨rfl, unhide X4⟩
  have hr := Classical.not_not.1 hr
  have q0 : (R.2.1 == 0) = true := by rw [hr]; rfl
  rw [hr] at s0
  clear hr
  by_cases hl : ¬ R.1.length = 1
  · have q1 : ((R.1.length : Int) == 1) = false := beq_eq_false_iff_ne.2 (by omega)
    have hw0 : isWordL R.1 = false := by
      match R.1, hl with
      | [], _ => rfl
      | [_], h => exact absurd rfl h
      | _ :: _ :: _, _ => rfl
    clear hl
    have hf : freshP t = false := by rw [unhide HFK, hw0]; rfl
    rw [hf] at HFR0
    have HFR := hide HFR0
    clear HFR0 hf
    go_wp2_with fail
    rw [← unhide HW3]
    refine (unhide HFR).mono ?_
    rintro e w4 ⟨rfl, hx4⟩
    have X4 := hide ((unhide X3).trans hx4)
    clear hx4
    go_wp2
    go_ret
    exact ⟨rfl, unhide X4⟩
  have hl := Classical.not_not.1 hl
  obtain ⟨x, hx⟩ : ∃ x, R.1 = [x] := by
    match R.1, hl with
    | [x], _ => exact ⟨x, rfl⟩
  have h82 := unhide HL8 hl
  obtain ⟨b, off, rfl, c⟩ := (unhide HT3).at 0 (by rw [hx]; simp)
  have c0 := c.kind
  have c1 := c.text
  simp only [hx, Nat.zero_mul, Nat.add_zero, List.getElem_cons_zero] at c0 c1
  have hh : hd0 R.1 = x := by rw [hx]; rfl
  have hwd : isWordL R.1 = decide (x.kind = 1) := by rw [hx]; rfl
  rw [hh, hwd] at HFK
  rw [hl]
  rw [unhide HW3] at c0 c1
  clear c hl hh hwd hx
  by_cases hk : ¬ x.kind = 1
  · have q2 : (x.kind == 1) = false := beq_eq_false_iff_ne.2 hk
    have hf : freshP t = false := by rw [unhide HFK, decide_eq_false hk]; rfl
    rw [hf] at HFR0
    have HFR := hide HFR0
    clear HFR0 hf
    go_wp2_with fail
    rw [← unhide HW3]
    refine (unhide HFR).mono ?_
    rintro e w4 ⟨rfl, hx4⟩
    have X4 := hide ((unhide X3).trans hx4)
    clear hx4
    go_wp2
    go_ret
    exact ⟨rfl, unhide X4⟩
  have hk := Classical.not_not.1 hk
  rw [hk] at c0
  rw [decide_eq_true hk, Bool.true_and] at HFK
  clear hk
  by_cases ht : ¬ x.text = t
  · have q3 : (x.text == t) = false := beq_eq_false_iff_ne.2 ht
    have hf : freshP t = false := by rw [unhide HFK, q3]; rfl
    rw [hf] at HFR0
    have HFR := hide HFR0
    clear HFR0 hf
    go_wp2_with fail
    rw [← unhide HW3]
    refine (unhide HFR).mono ?_
    rintro e w4 ⟨rfl, hx4⟩
    have X4 := hide ((unhide X3).trans hx4)
    clear hx4
    go_wp2
    go_ret
    exact ⟨rfl, unhide X4⟩
  have ht := Classical.not_not.1 ht
  rw [ht] at c1 HFK
  rw [show (t == t) = true by simp, Bool.true_and] at HFK
  clear ht
  have HKP0 := refKept_any ⟨t.toArray⟩ w3 (show t.length ≤ 8192 from h82)
  rw [show (⟨t.toArray⟩ : ByteArray).data.toList = t from rfl] at HKP0
  obtain ⟨kp, hkp⟩ : ∃ kp, keptP t = kp := ⟨_, rfl⟩
  rw [hkp] at HKP0 HFK
  have HKP := hide HKP0
  clear hkp HKP0
  rw [unhide HFK] at HFR0
  have HFR := hide HFR0
  clear HFR0
  go_wp2_with fail
  rw [← unhide HW3]
  refine (unhide HKP).mono ?_
  rintro e w4 ⟨rfl, rfl⟩
  cases kp with
  | true =>
    go_wp2_with fail
    refine (unhide HFR).mono ?_
    rintro e w5 ⟨rfl, hx5⟩
    have X5 := hide ((unhide X3).trans hx5)
    clear hx5
    go_wp2
    go_ret
    exact ⟨rfl, unhide X5⟩
  | false =>
    obtain ⟨n, pl, ln, hrun⟩ := fresh_run (t := t) (unhide HFK)
    go_wp2_with fail
    refine (unhide HFR).mono ?_
    rintro e w5 ⟨rfl, hx5⟩
    have X5 := hide ((unhide X3).trans hx5)
    have HRU0 := run2_any ((⟨#[35, 100, 101, 102, 105, 110, 101, 32]⟩ : ByteArray) ++ ⟨t.toArray⟩ ++ ⟨#[32, 55, 10]⟩ ++ ⟨t.toArray⟩) w5 m ((unhide HS).ext (unhide X5))
    rw [show ((⟨#[35, 100, 101, 102, 105, 110, 101, 32]⟩ : ByteArray) ++ ⟨t.toArray⟩ ++ ⟨#[32, 55, 10]⟩ ++ ⟨t.toArray⟩).data.toList = defT ++ 32 :: (t ++ 32 :: ([55] ++ 10 :: t)) by simp [defT, ByteArray.data_append], hrun] at HRU0
    have HRU := hide HRU0
    clear hx5 HRU0 hrun s0 c0 c1
    have hsz : (⟨t.toArray⟩ : ByteArray).size ≤ 8192 := h82
    go_wp2_with fail
    refine (unhide HRU).mono ?_
    rintro e w6 ⟨ao6, ca6, rfl, hO6, hx6⟩
    obtain ⟨b6, o6, rfl, c6⟩ := (hO6.tr.ext ((Ext.refl w6).alloc (.cells #[.int .i64 0, .int .i64 0] 26))).at 0 (by simp)
    have k1 := c6.text
    simp only [Nat.zero_mul, Nat.add_zero, List.getElem_cons_zero] at k1
    have X7 := hide (((unhide X5).trans hx6).alloc (.cells #[.int .i64 0, .int .i64 0] 26))
    clear hO6 hx6 c6
    go_wp2
    go_ret
    exact ⟨rfl, unhide X7⟩

set_option maxRecDepth 100000 in
theorem preFresh_owes (H : Type) (enc : TypeId × Value → H) (W : World) (base : Nat) (args : Array Value) (ds : List (DataW H)) (p : List MemPlace) : OwesP H enc Tryd.prog 4 Tryd.f4 Rows.preFreshSpec laidL W base args ds p := by
  intro hval hA hsz hL hsh
  have hT := tab_of_laid hL
  clear hL
  rw [Tryd.params4] at hA hval hsz
  obtain ⟨v0, vs0, d0, ds0, p0, q0, hargs, rfl, rfl, h0, r0⟩ := trodAll_cons hA
  obtain ⟨rfl, rfl, rfl⟩ := trodAll_nil r0
  obtain rfl : args = #[v0] := by cases args; simp_all
  obtain ⟨s, rfl, rfl, rfl, ws⟩ := open_string Tryd.underlying9 (hval 0 9 v0 rfl rfl) h0
  obtain ⟨m, hm⟩ := Tryd.laysM143.s1_3 W hsh
  have hP := preFresh_any s.data.toList W m ⟨hm, hT⟩
  rw [ba_back s] at hP
  exact ⟨⟨rfl, rfl, rfl⟩, hP⟩

set_option maxRecDepth 100000 in
theorem preFresh_lifted (os : Os) (started : os.Started) (H : Type) (enc : TypeId × Value → H) :
    ReturnsInHanded {} Tryd.checked os 4 .any (fun w args => (Rows.preFreshSpec.pre enc Tryd.prog Tryd.f4 Rows.preFreshRow.domain false w args ∧ laidMetH Tryd.prog Rows.preFreshRow.laid w) ∧ sizedMet enc Tryd.prog Tryd.f4 (OpenSpec.ofChange Rows.preFreshSpec) false w args) (Rows.preFreshSpec.post enc Tryd.prog Tryd.f4 false true false false) :=
  lift_law_both (C := Tryd.checked) (laid := laidL) own laidOut started (by kernel_rfl) Tryd.func4 (T := 4) rfl Tryd.underlying4 rfl (by kernel_rfl)
    (ChangeSpec.witness_shaped (enc := enc) (C := Tryd.checked) (os := os) (X := fun w _ => laidMetH Tryd.prog laidL w) false (World.laidAll Tryd.prog os laidL) #[.string ⟨#[]⟩] 8 (World.laidAll_os _ _ _)
      (World.shaped_of_ZipB (by kernel_rfl) (by kernel_rfl)) (by kernel_rfl) (by kernel_rfl) (by kernel_rfl) (laid_fits os _)) (preFresh_owes H enc)

theorem preFresh_row : Rows.PreFreshSaid :=
  OpenClaim.holds_of_wide 4 Tryd.f4 rfl rfl rfl rfl rfl rfl rfl ⟨rfl, rfl, rfl, rfl, rfl⟩ rfl rfl rfl rfl rfl (by kernel_rfl) Tryd.func4 (by kernel_rfl)
    (of_decide_eq_true (by kernel_rfl)) (by unfold Func.isWrapper; rw [if_neg (of_decide_eq_false (by kernel_rfl))]; exact ⟨rfl, rfl⟩)
    (fun os started H enc _ => preFresh_lifted os started H enc)

theorem preFresh_plain (f : FuncId) (fn : Func) (hf : Tryd.pinned.checked.prog.funcNamed "paintbox/paintboxlaw11.PreFresh" = some f) (hfn : Tryd.pinned.checked.prog.funcs[f]? = some fn) :
    false = Tryd.pinned.checked.prog.looks [] ∧ ∀ (j : Nat) t, fn.params[j]? = some t → Tryd.pinned.checked.prog.wantsStandIn t = false := by
  obtain rfl : f = 4 := Option.some.inj ((show Tryd.prog.funcNamed "paintbox/paintboxlaw11.PreFresh" = some 4 by kernel_rfl).symm.trans hf) |>.symm
  obtain rfl : fn = Tryd.f4 := (Option.some.inj (Tryd.func4.symm.trans hfn)).symm
  refine ⟨by kernel_rfl, fun j t ht => ?_⟩
  rw [Tryd.params4] at ht
  have hm : t ∈ [9] := by simpa using Array.mem_of_getElem? ht
  have hall : ([9].all fun u => !Tryd.prog.wantsStandIn u) = true := by kernel_rfl
  exact (show Tryd.prog.wantsStandIn t = false by simpa using List.all_eq_true.1 hall t hm)

theorem preFresh_holds : Rows.PreFreshCardSaid :=
  Claim7.holds_tied_plain_at .later [] _ _ _ _ preFresh_row (fun _ h => by cases h) (by kernel_rfl) (fun _ h => by cases h) preFresh_row_tie rfl ⟨rfl, rfl⟩ (by kernel_rfl) rfl preFresh_plain (by kernel_rfl)
#print axioms preFresh_holds
end Go.Proofs.YtgcliklpbahfaaaDoor
