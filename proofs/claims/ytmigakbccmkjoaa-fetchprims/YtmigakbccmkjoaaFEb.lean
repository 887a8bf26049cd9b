/-
  Vertices out of bytes: the walks of numbersOf, its functions, number, Width, Number, Check, step, stretch.
-/
import Derived.Test.YtmigakbccmkjoaaFEa
import Derived.Test.YtmigakbccmkjoaaW3
import Derived.Test.YtmigakbccmkjoaaBlk
import Derived.Shelf.Abstract
import Derived.Laws.EntriesVeiled
import Derived.BigQuiet
import Derived.Deep.CondSized
namespace Go.Proofs.Ytmigakbccmkjoaa
open Go.RowKit
set_option linter.unusedVariables false
set_option linter.unusedSimpArgs false

/-- The function that reads the next number of a kind. -/
def nxtV (k : Int) : Value :=
  if k = 1 then .func (.func 34) #[] #[] else if k = 2 then .func (.func 36) #[] #[] else if k = 3 then .func (.func 38) #[] #[]
  else if k = 4 then .func (.func 40) #[] #[] else if k = 5 then .func (.func 42) #[] #[] else .nilFunc
def nbC (k : Int) : Array Value := #[.int .i64 (widI k : Int), .int .i64 (lstI k), .int .i64 (mstI k), .bool (decide (k = 5)), nxtV k]

set_option maxHeartbeats 1000000 in
theorem fnum_any (k : Int) (w : World) :
    Calls Try.prog 24 #[.int .i64 k] w fun e w' => e = .returned (.tuple #[.agg (nbC k), .bool (knwB k)]) ∧ Ext w w' := by
  by_cases h5 : knwB k = true
  · rw [h5]
    rcases knw_cases h5 with rfl | rfl | rfl | rfl | rfl
    all_goals
      go_enter Try.func24, Try.ntmps24
      go_wp2
      refine bodyPost_ret (v := .tuple #[.agg (nbC _), .bool true]) (by simp [results, Try.results24, go_sem]; rfl) rfl ⟨rfl, ?_⟩
      repeat (first | exact Ext.refl _ | refine ext_set ?_ (by simp) | refine Ext.alloc ?_ _)
  · have h5 : knwB k = false := by simpa using h5
    have hn := knw_no h5
    rw [h5]
    have d1 : (k == 1) = false := by simp; omega
    have d2 : (k == 2) = false := by simp; omega
    have d3 : (k == 3) = false := by simp; omega
    have d4 : (k == 4) = false := by simp; omega
    have d5 : (k == 5) = false := by simp; omega
    have e : nbC k = #[.int .i64 0, .int .i64 0, .int .i64 0, .bool false, .nilFunc] := by
      unfold nbC widI lstI mstI nxtV
      repeat rw [if_neg (by omega)]
      rw [decide_eq_false (by omega)]
      rfl
    rw [e]
    clear hn h5 e
    go_enter Try.func24, Try.ntmps24
    go_wp2
    refine bodyPost_ret (v := .tuple #[.agg #[.int .i64 0, .int .i64 0, .int .i64 0, .bool false, .nilFunc], .bool false]) (by simp [results, Try.results24, go_sem]) rfl ⟨rfl, ?_⟩
    repeat (first | exact Ext.refl _ | refine ext_set ?_ (by simp) | refine Ext.alloc ?_ _)

/-- What reading the next number does. -/
def NxtQ (w : World) (k : Int) (rb : Nat) (sv : Value) (bs : List Int) (p : Nat) (err : Int) (e : Ending) (w' : World) : Prop :=
  e = .returned (.int .i64 (rdF k (took bs p err (widI k : Int)).1)) ∧ Rd w' rb sv bs (took bs p err (widI k : Int)).2.1 (took bs p err (widI k : Int)).2.2 ∧ w.grownBy w' (some rb)

theorem next_1 {w : World} {rb : Nat} {sv : Value} {bs : List Int} {p : Nat} {err : Int} (h : Rd w rb sv bs p err) :
    Calls Try.prog 34 #[.pointer (some ⟨rb, 0, none⟩)] w (NxtQ w 1 rb sv bs p err) := by
  have hb : 0 ≤ numOf (took bs p err 1).1 ∧ numOf (took bs p err 1).1 < 256 := numOf_le _ (took_byt h.byt) 1 (by have := took_len (bs := bs) (p := p) (err := err) (n := 1); omega)
  have HC := hide (i8_any h)
  have hs : -128 ≤ sgn 128 (numOf (took bs p err 1).1) ∧ sgn 128 (numOf (took bs p err 1).1) < 128 := by unfold sgn; split <;> omega
  have HQ := hide (show ∀ w', Rd w' rb sv bs (took bs p err 1).2.1 (took bs p err 1).2.2 → w.grownBy w' (some rb) → NxtQ w 1 rb sv bs p err (.returned (.int .i64 (sgn 128 (numOf (took bs p err 1).1)))) w' from fun w' h1 h2 => ⟨rfl, h1, h2⟩)
  generalize sgn 128 (numOf (took bs p err 1).1) = x at *
  clear hb h
  go_enter Try.func34, Try.ntmps34
  go_wp2_with (go_at_call 35; refine (unhide HC).mono ?_; rintro e w1 ⟨rfl, h1, h2⟩; have H1 := hide (And.intro h1 h2); clear h1 h2)
  go_ret
  exact unhide HQ _ (unhide H1).1 (unhide H1).2
theorem next_2 {w : World} {rb : Nat} {sv : Value} {bs : List Int} {p : Nat} {err : Int} (h : Rd w rb sv bs p err) :
    Calls Try.prog 36 #[.pointer (some ⟨rb, 0, none⟩)] w (NxtQ w 2 rb sv bs p err) := by
  have hb : 0 ≤ numOf (took bs p err 1).1 ∧ numOf (took bs p err 1).1 < 256 := numOf_le _ (took_byt h.byt) 1 (by have := took_len (bs := bs) (p := p) (err := err) (n := 1); omega)
  have HC := hide (u8_any h)
  have HQ := hide (show ∀ w', Rd w' rb sv bs (took bs p err 1).2.1 (took bs p err 1).2.2 → w.grownBy w' (some rb) → NxtQ w 2 rb sv bs p err (.returned (.int .i64 (numOf (took bs p err 1).1))) w' from fun w' h1 h2 => ⟨rfl, h1, h2⟩)
  generalize numOf (took bs p err 1).1 = x at *
  clear h
  go_enter Try.func36, Try.ntmps36
  go_wp2_with (go_at_call 37; refine (unhide HC).mono ?_; rintro e w1 ⟨rfl, h1, h2⟩; have H1 := hide (And.intro h1 h2); clear h1 h2)
  go_ret
  exact unhide HQ _ (unhide H1).1 (unhide H1).2
theorem next_3 {w : World} {rb : Nat} {sv : Value} {bs : List Int} {p : Nat} {err : Int} (h : Rd w rb sv bs p err) :
    Calls Try.prog 38 #[.pointer (some ⟨rb, 0, none⟩)] w (NxtQ w 3 rb sv bs p err) := by
  have hb : 0 ≤ numOf (took bs p err 2).1 ∧ numOf (took bs p err 2).1 < 65536 := numOf_le _ (took_byt h.byt) 2 (by have := took_len (bs := bs) (p := p) (err := err) (n := 2); omega)
  have HC := hide (i16_any h)
  have hs : -32768 ≤ sgn 32768 (numOf (took bs p err 2).1) ∧ sgn 32768 (numOf (took bs p err 2).1) < 32768 := by unfold sgn; split <;> omega
  have HQ := hide (show ∀ w', Rd w' rb sv bs (took bs p err 2).2.1 (took bs p err 2).2.2 → w.grownBy w' (some rb) → NxtQ w 3 rb sv bs p err (.returned (.int .i64 (sgn 32768 (numOf (took bs p err 2).1)))) w' from fun w' h1 h2 => ⟨rfl, h1, h2⟩)
  generalize sgn 32768 (numOf (took bs p err 2).1) = x at *
  clear hb h
  go_enter Try.func38, Try.ntmps38
  go_wp2_with (go_at_call 39; refine (unhide HC).mono ?_; rintro e w1 ⟨rfl, h1, h2⟩; have H1 := hide (And.intro h1 h2); clear h1 h2)
  go_ret
  exact unhide HQ _ (unhide H1).1 (unhide H1).2
theorem next_4 {w : World} {rb : Nat} {sv : Value} {bs : List Int} {p : Nat} {err : Int} (h : Rd w rb sv bs p err) :
    Calls Try.prog 40 #[.pointer (some ⟨rb, 0, none⟩)] w (NxtQ w 4 rb sv bs p err) := by
  have hb : 0 ≤ numOf (took bs p err 2).1 ∧ numOf (took bs p err 2).1 < 65536 := numOf_le _ (took_byt h.byt) 2 (by have := took_len (bs := bs) (p := p) (err := err) (n := 2); omega)
  have HC := hide (u16_any h)
  have HQ := hide (show ∀ w', Rd w' rb sv bs (took bs p err 2).2.1 (took bs p err 2).2.2 → w.grownBy w' (some rb) → NxtQ w 4 rb sv bs p err (.returned (.int .i64 (numOf (took bs p err 2).1))) w' from fun w' h1 h2 => ⟨rfl, h1, h2⟩)
  generalize numOf (took bs p err 2).1 = x at *
  clear h
  go_enter Try.func40, Try.ntmps40
  go_wp2_with (go_at_call 41; refine (unhide HC).mono ?_; rintro e w1 ⟨rfl, h1, h2⟩; have H1 := hide (And.intro h1 h2); clear h1 h2)
  go_ret
  exact unhide HQ _ (unhide H1).1 (unhide H1).2
theorem next_5 {w : World} {rb : Nat} {sv : Value} {bs : List Int} {p : Nat} {err : Int} (h : Rd w rb sv bs p err) :
    Calls Try.prog 42 #[.pointer (some ⟨rb, 0, none⟩)] w (NxtQ w 5 rb sv bs p err) := by
  have hb : 0 ≤ numOf (took bs p err 4).1 ∧ numOf (took bs p err 4).1 < 4294967296 := numOf_le _ (took_byt h.byt) 4 (by have := took_len (bs := bs) (p := p) (err := err) (n := 4); omega)
  have HC := hide (i32_any h)
  have hs : -2147483648 ≤ sgn 2147483648 (numOf (took bs p err 4).1) ∧ sgn 2147483648 (numOf (took bs p err 4).1) < 2147483648 := by unfold sgn; split <;> omega
  have HQ := hide (show ∀ w', Rd w' rb sv bs (took bs p err 4).2.1 (took bs p err 4).2.2 → w.grownBy w' (some rb) → NxtQ w 5 rb sv bs p err (.returned (.int .i64 (sgn 2147483648 (numOf (took bs p err 4).1)))) w' from fun w' h1 h2 => ⟨rfl, h1, h2⟩)
  generalize sgn 2147483648 (numOf (took bs p err 4).1) = x at *
  clear hb h
  go_enter Try.func42, Try.ntmps42
  go_wp2_with (go_at_call 43; refine (unhide HC).mono ?_; rintro e w1 ⟨rfl, h1, h2⟩; have H1 := hide (And.intro h1 h2); clear h1 h2)
  go_ret
  exact unhide HQ _ (unhide H1).1 (unhide H1).2
/-- The function that reads a kind's next number, whatever the kind. -/
theorem nxt_any {k : Int} (hk : knwB k = true) : ∃ g : FuncId, nxtV k = .func (.func g) #[] #[] ∧ (∀ args w, (callFunc g args).run Try.prog w = .ok (.enter g args) w) ∧
    ∀ {w : World} {rb : Nat} {sv : Value} {bs : List Int} {p : Nat} {err : Int}, Rd w rb sv bs p err → Calls Try.prog g #[.pointer (some ⟨rb, 0, none⟩)] w (NxtQ w k rb sv bs p err) := by
  rcases knw_cases hk with rfl | rfl | rfl | rfl | rfl
  · exact ⟨_, rfl, enters_of Try.func34 (by kernel_rfl) rfl, fun h => next_1 h⟩
  · exact ⟨_, rfl, enters_of Try.func36 (by kernel_rfl) rfl, fun h => next_2 h⟩
  · exact ⟨_, rfl, enters_of Try.func38 (by kernel_rfl) rfl, fun h => next_3 h⟩
  · exact ⟨_, rfl, enters_of Try.func40 (by kernel_rfl) rfl, fun h => next_4 h⟩
  · exact ⟨_, rfl, enters_of Try.func42 (by kernel_rfl) rfl, fun h => next_5 h⟩

set_option maxHeartbeats 1000000 in
theorem fnumber_any (k : Int) (nz : Bool) (n : Int) (w : World) (hk : knwB k = true) :
    Calls Try.prog 26 #[.agg (nbC k), .bool nz, .int .i64 n] w fun e w' => e = .returned (.int .i32 (numF k nz n)) ∧ Ext w w' := by
  have HE := hide (show numF k nz n = if k = 5 then rawI n else if nz = false then rawI (65536 * n) else max (divI (rawI n) (rawI (mstI k))) (-65536) from rfl)
  generalize numF k nz n = y at *
  unfold nbC
  generalize lstI k = ls at *
  generalize nxtV k = nv at *
  generalize ((widI k : Nat) : Int) = wd at *
  by_cases h5 : k = 5
  · have e := unhide HE
    rw [if_pos h5] at e
    subst e
    rw [decide_eq_true h5]
    clear HE
    go_enter Try.func26, Try.ntmps26
    go_wp2_with fail
    refine (raw_any n _).mono ?_
    rintro e w1 ⟨rfl, rfl⟩
    go_wp2
    go_ret
    exact ⟨rfl, by repeat (first | exact Ext.refl _ | refine Ext.alloc ?_ _)⟩
  · have e := unhide HE
    rw [if_neg h5] at e
    rw [decide_eq_false h5]
    clear HE
    cases nz with
    | false =>
      rw [if_pos rfl] at e
      subst e
      go_enter Try.func26, Try.ntmps26
      go_wp2_with fail
      refine (of_any n _).mono ?_
      rintro e w1 ⟨rfl, rfl⟩
      go_wp2
      go_ret
      exact ⟨rfl, by repeat (first | exact Ext.refl _ | refine Ext.alloc ?_ _)⟩
    | true =>
      rw [if_neg (by decide)] at e
      subst e
      have i1 := rawI_i32 n
      have i2 := rawI_i32 (mstI k)
      have i3 := divI_i32 (rawI n) (rawI (mstI k))
      have I := hide (And.intro i1 (And.intro i2 i3))
      clear i1 i2 i3 hk h5
      generalize mstI k = ms at *
      have HC1 := hide (fun w => raw_any n w)
      have HC2 := hide (fun w => raw_any ms w)
      have HC3 := hide (fun w => div_any (rawI n) (rawI ms) w (unhide I).1 (unhide I).2.1)
      have HC4 := hide (fun w => max_any (divI (rawI n) (rawI ms)) (-65536) w)
      generalize rawI n = rn at *
      generalize rawI ms = rm at *
      generalize divI rn rm = q at *
      go_enter Try.func26, Try.ntmps26
      go_wp2
      go_quiet (first
        | (go_at_call 44; with_reducible refine Calls.quiet_of_same (unhide HC1 _))
        | (go_at_call 44; with_reducible refine Calls.quiet_of_same (unhide HC2 _))
        | (go_at_call 47; with_reducible refine Calls.quiet_of_same (unhide HC3 _))
        | (go_at_call 46; with_reducible refine Calls.quiet_of_same (unhide HC4 _)))
      go_wp2
      go_ret
      exact ⟨rfl, by repeat (first | exact Ext.refl _ | refine Ext.drewN ?_ _ | refine Ext.alloc ?_ _)⟩
end Go.Proofs.Ytmigakbccmkjoaa
