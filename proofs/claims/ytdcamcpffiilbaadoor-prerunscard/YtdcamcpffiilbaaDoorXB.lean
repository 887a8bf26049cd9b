/-
  What a byte is; how many bytes of a sort a text begins with; comments.
-/
import Derived.Test.YtdcamcpffiilbaaDoorXA
import Derived.Test.YtdcamcpffiilbaaDoorShelf
import Derived.Laws.RangeAny
import Derived.Laws.Strings3
import Derived.Laws.Strings
import Derived.Laws.Strings2
import Derived.ScopeJumps
import Derived.WalkMore
import Derived.WalkSmall
import Derived.Shelf.Abstract
namespace Go.Proofs.YtdcamcpffiilbaaDoor
open Go.RowKit
set_option linter.unusedSimpArgs false
set_option linter.unusedVariables false

/-- A byte's predicate as a function of the program. -/
def Tells (g : FuncId) (p : UInt8 → Bool) : Prop := ∀ (c : UInt8) (w : World), Calls Tryd.prog g #[.int .u8 (c.toNat : Int)] w fun e w' => e = .returned (.bool (p c)) ∧ w' = w

theorem isBlank_any : Tells 30 isBl := by
  intro c w
  go_enter Tryd.func30, Tryd.ntmps30
  go_wp2
  all_goals
    go_ret
    refine ⟨congrArg (fun b => Ending.returned (Value.bool b)) ?_, rfl⟩
    rw [Bool.eq_iff_iff]
    simp [isBl]
    try omega
theorem isWithinLine_any : Tells 33 isLn := by
  intro c w
  go_enter Tryd.func33, Tryd.ntmps33
  go_wp2
  all_goals
    go_ret
    refine ⟨congrArg (fun b => Ending.returned (Value.bool b)) ?_, rfl⟩
    rw [Bool.eq_iff_iff]
    simp [isLn]
    try omega
theorem isLetter_any : Tells 35 isLt := by
  intro c w
  go_enter Tryd.func35, Tryd.ntmps35
  go_wp2
  all_goals
    go_ret
    refine ⟨congrArg (fun b => Ending.returned (Value.bool b)) ?_, rfl⟩
    rw [Bool.eq_iff_iff]
    simp [isLt]
    try omega
theorem isDigit_any : Tells 37 isDg := by
  intro c w
  go_enter Tryd.func37, Tryd.ntmps37
  go_wp2
  all_goals
    go_ret
    refine ⟨congrArg (fun b => Ending.returned (Value.bool b)) ?_, rfl⟩
    rw [Bool.eq_iff_iff]
    simp [isDg]
    try omega
theorem isPoint_any : Tells 63 isPt := by
  intro c w
  go_enter Tryd.func63, Tryd.ntmps63
  go_wp2
  all_goals
    go_ret
    refine ⟨congrArg (fun b => Ending.returned (Value.bool b)) ?_, rfl⟩
    rw [Bool.eq_iff_iff]
    simp [isPt]
    try omega
theorem isWord_any : Tells 36 isWd := by
  intro c w
  go_enter Tryd.func36, Tryd.ntmps36
  go_wp2_with (first | (go_at_call 35; refine (isLetter_any _ _).mono ?_; rintro e w1 ⟨rfl, rfl⟩) | (go_at_call 37; refine (isDigit_any _ _).mono ?_; rintro e w1 ⟨rfl, rfl⟩))
  all_goals
    go_ret
    refine ⟨congrArg (fun b => Ending.returned (Value.bool b)) ?_, rfl⟩
    simp_all [isWd]

theorem begN_ba (p : UInt8 → Bool) (s : ByteArray) (h : 0 < s.size) : begN p s.data.toList = p s[0] := by
  obtain ⟨⟨l⟩⟩ := s
  cases l with
  | nil => simp [ByteArray.size] at h
  | cons b l => rfl
theorem begN_ba0 (p : UInt8 → Bool) (s : ByteArray) (h : ¬ 0 < s.size) : begN p s.data.toList = false := by
  obtain ⟨⟨l⟩⟩ := s
  cases l with
  | nil => rfl
  | cons b l => simp [ByteArray.size] at h
theorem list_size (s : ByteArray) : s.data.toList.length = s.size := by simp
theorem drop_get (s : ByteArray) (k : Nat) (h : k < s.size) : s.data.toList.drop k = s[k] :: s.data.toList.drop (k + 1) := by
  have h2 : k < s.data.toList.length := by simpa using h
  rw [List.drop_eq_getElem_cons h2]
  congr 1

theorem begins_any (s : ByteArray) (g : FuncId) (p : UInt8 → Bool) (hp : Tells g p) (eg : ∀ args w, (callFunc g args).run Tryd.prog w = .ok (.enter g args) w) (w : World) :
    Calls Tryd.prog 38 #[.string s, .func (.func g) #[] #[]] w fun e w' => e = .returned (.bool (begN p s.data.toList)) ∧ w' = w := by
  go_enter Tryd.func38, Tryd.ntmps38
  by_cases h : 0 < s.size
  · rw [begN_ba p s h]
    go_wp2_with (go_at_fn g; refine (hp _ _).mono ?_; rintro e w1 ⟨rfl, rfl⟩)
    go_ret
    exact ⟨rfl, rfl⟩
  · rw [begN_ba0 p s h]
    go_wp2_with fail
    go_ret
    exact ⟨rfl, rfl⟩

theorem runN_cons (p : UInt8 → Bool) (b : UInt8) (l : Byts8) : runN p (b :: l) = if p b = true then runN p l + 1 else 0 := rfl
theorem runN_step {p : UInt8 → Bool} {l : Byts8} {n : Nat} (h : n ≤ runN p l) : runN p (l.drop n) + n = runN p l := by
  induction n generalizing l with
  | zero => simp
  | succ n ih =>
    cases l with
    | nil => simp [runN] at h
    | cons b l =>
      rw [runN_cons] at h ⊢
      split at h
      · rename_i hb
        have := ih (l := l) (by omega)
        simp only [List.drop_succ_cons]
        rw [if_pos hb]
        omega
      · omega

/-- A scope with one label, to which the run jumps back: what holds at the label, and a measure. -/
theorem wp_scope_one {P : Program} {a : Act} {w : World} {Q : Exit → Act → World → Prop} {c rest : Code} (l : Nat) (J : Act → World → Prop) (μ : Act → World → Nat) (hf : findLabel c l = some (Code.skip.seq rest))
    (pass : ∀ a w, J a w → rest.wp P (Exit.jump l (fun a' w' => J a' w' ∧ μ a' w' < μ a w) Q) a w)
    (first : (∀ a w, J a w → rest.wp P (Exit.jump l J Q) a w) → c.wp P (Exit.jump l J Q) a w) : (Code.scope c).wp P Q a w :=
  wp_scope_jumps l J μ hf (first fun a w hJ => Code.wp_mono (fun e a w h => by
    cases e <;> first | exact h | exact ⟨h.1, h.2.1⟩) (pass a w hJ)) fun a w hJ => wp_seq (wp_skip (pass a w hJ))

/-- As Q; by a goto to label 0: J0; to label 1: J1; by any other goto: no way out. -/
def jump2 (J0 J1 : Act → World → Prop) (Q : Exit → Act → World → Prop) : Exit → Act → World → Prop
  | .goto l, a, w => (l = 0 ∧ J0 a w) ∨ (l = 1 ∧ J1 a w)
  | e, a, w => Q e a w
theorem jump2_goto0 {J0 J1 : Act → World → Prop} {Q : Exit → Act → World → Prop} {a : Act} {w : World} (h : J0 a w) : jump2 J0 J1 Q (.goto 0) a w := .inl ⟨rfl, h⟩
theorem jump2_goto1 {J0 J1 : Act → World → Prop} {Q : Exit → Act → World → Prop} {a : Act} {w : World} (h : J1 a w) : jump2 J0 J1 Q (.goto 1) a w := .inr ⟨rfl, h⟩
theorem jump2_mono {J0 J1 K0 K1 : Act → World → Prop} {Q : Exit → Act → World → Prop} (h0 : ∀ a w, J0 a w → K0 a w) (h1 : ∀ a w, J1 a w → K1 a w) (e : Exit) (a : Act) (w : World) (h : jump2 J0 J1 Q e a w) : jump2 K0 K1 Q e a w := by
  cases e
  case goto l => exact h.imp (fun x => ⟨x.1, h0 _ _ x.2⟩) (fun x => ⟨x.1, h1 _ _ x.2⟩)
  all_goals exact h
/-- A scope with two labels. -/
theorem wp_scope_two {P : Program} {a : Act} {w : World} {Q : Exit → Act → World → Prop} {c r0 r1 : Code} (J0 J1 : Act → World → Prop) (μ0 μ1 : Act → World → Nat) (hf0 : findLabel c 0 = some (Code.skip.seq r0)) (hf1 : findLabel c 1 = some (Code.skip.seq r1))
    (pass1 : ∀ a w, J1 a w → r1.wp P (jump2 (fun a' w' => J0 a' w' ∧ μ0 a' w' < μ1 a w) (fun _ _ => False) Q) a w)
    (pass0 : ∀ a w, J0 a w → (∀ a1 w1, J1 a1 w1 → μ1 a1 w1 < μ0 a w → r1.wp P (jump2 (fun a' w' => J0 a' w' ∧ μ0 a' w' < μ0 a w) (fun a' w' => J1 a' w' ∧ μ1 a' w' < μ0 a w) Q) a1 w1) →
      r0.wp P (jump2 (fun a' w' => J0 a' w' ∧ μ0 a' w' < μ0 a w) (fun a' w' => J1 a' w' ∧ μ1 a' w' < μ0 a w) Q) a w)
    (first : (∀ a w, J0 a w → r0.wp P (jump2 J0 J1 Q) a w) → c.wp P (jump2 J0 J1 Q) a w) : (Code.scope c).wp P Q a w := by
  have p0 : ∀ a w, J0 a w → r0.wp P (jump2 (fun a' w' => J0 a' w' ∧ μ0 a' w' < μ0 a w) (fun a' w' => J1 a' w' ∧ μ1 a' w' < μ0 a w) Q) a w := fun a w hJ =>
    pass0 a w hJ fun a1 w1 h1 hm => Code.wp_mono (jump2_mono (fun a' w' h => ⟨h.1, Nat.lt_trans h.2 hm⟩) (fun _ _ h => h.elim)) (pass1 a1 w1 h1)
  have hc := first fun a w hJ => Code.wp_mono (jump2_mono (fun _ _ h => h.1) (fun _ _ h => h.1)) (p0 a w hJ)
  clear first pass0
  intro b k cs
  have hg0 : gotoIn 0 (.inScope c :: k) = some (.code (Code.skip.seq r0) :: .inScope c :: k) := by simp [gotoIn, hf0]
  have hg1 : gotoIn 1 (.inScope c :: k) = some (.code (Code.skip.seq r1) :: .inScope c :: k) := by simp [gotoIn, hf1]
  have key : ∀ n, (∀ a w, μ0 a w = n → J0 a w → ∃ e a' w', Q e a' w' ∧ Arrives P (lone (b.at a (.code (Code.skip.seq r0) :: .inScope c :: k)) cs w) b k cs e a' w') ∧
      (∀ a w, μ1 a w = n → J1 a w → ∃ e a' w', Q e a' w' ∧ Arrives P (lone (b.at a (.code (Code.skip.seq r1) :: .inScope c :: k)) cs w) b k cs e a' w') := by
    intro n
    induction n using Nat.strongRecOn with
    | _ n ih =>
      refine ⟨?_, ?_⟩
      · intro a w hn hJ
        obtain ⟨e, a₁, w₁, hq, harr⟩ := wp_seq (wp_skip (p0 a w hJ)) b (.inScope c :: k) cs
        cases e with
        | normal => exact ⟨.normal, a₁, w₁, hq, Steps.trans harr (.one step_inScope)⟩
        | exit id => exact ⟨.exit id, a₁, w₁, hq, fun k' hk => harr k' (by simp [exitTo, hk])⟩
        | goto l' =>
          rcases hq with ⟨rfl, hJ', hlt⟩ | ⟨rfl, hJ', hlt⟩
          · obtain ⟨e₂, a₂, w₂, hq₂, harr₂⟩ := (ih _ (by omega)).1 a₁ w₁ rfl hJ'
            exact ⟨e₂, a₂, w₂, hq₂, .of_steps (harr _ hg0) harr₂⟩
          · obtain ⟨e₂, a₂, w₂, hq₂, harr₂⟩ := (ih _ (by omega)).2 a₁ w₁ rfl hJ'
            exact ⟨e₂, a₂, w₂, hq₂, .of_steps (harr _ hg1) harr₂⟩
        | ret => exact ⟨_, a₁, w₁, hq, harr⟩
        | panic ch => exact ⟨_, a₁, w₁, hq, harr⟩
        | outgrown => exact ⟨_, a₁, w₁, hq, harr⟩
      · intro a w hn hJ
        obtain ⟨e, a₁, w₁, hq, harr⟩ := wp_seq (wp_skip (pass1 a w hJ)) b (.inScope c :: k) cs
        cases e with
        | normal => exact ⟨.normal, a₁, w₁, hq, Steps.trans harr (.one step_inScope)⟩
        | exit id => exact ⟨.exit id, a₁, w₁, hq, fun k' hk => harr k' (by simp [exitTo, hk])⟩
        | goto l' =>
          rcases hq with ⟨rfl, hJ', hlt⟩ | ⟨rfl, hJ'⟩
          · obtain ⟨e₂, a₂, w₂, hq₂, harr₂⟩ := (ih _ (by omega)).1 a₁ w₁ rfl hJ'
            exact ⟨e₂, a₂, w₂, hq₂, .of_steps (harr _ hg0) harr₂⟩
          · exact hJ'.elim
        | ret => exact ⟨_, a₁, w₁, hq, harr⟩
        | panic ch => exact ⟨_, a₁, w₁, hq, harr⟩
        | outgrown => exact ⟨_, a₁, w₁, hq, harr⟩
  obtain ⟨e, a₁, w₁, hq, harr⟩ := hc b (.inScope c :: k) cs
  cases e with
  | normal => exact ⟨.normal, a₁, w₁, hq, .head step_scope (Steps.trans harr (.one step_inScope))⟩
  | exit id => exact ⟨.exit id, a₁, w₁, hq, fun k' hk => .head step_scope (harr k' (by simp [exitTo, hk]))⟩
  | goto l' =>
    rcases hq with ⟨rfl, hJ'⟩ | ⟨rfl, hJ'⟩
    · obtain ⟨e₂, a₂, w₂, hq₂, harr₂⟩ := (key _).1 a₁ w₁ rfl hJ'
      exact ⟨e₂, a₂, w₂, hq₂, .of_steps (.head step_scope (harr _ hg0)) harr₂⟩
    · obtain ⟨e₂, a₂, w₂, hq₂, harr₂⟩ := (key _).2 a₁ w₁ rfl hJ'
      exact ⟨e₂, a₂, w₂, hq₂, .of_steps (.head step_scope (harr _ hg1)) harr₂⟩
  | ret => exact ⟨_, a₁, w₁, hq, .of_steps (.one step_scope) harr⟩
  | panic ch => exact ⟨_, a₁, w₁, hq, .of_steps (.one step_scope) harr⟩
  | outgrown => exact ⟨_, a₁, w₁, hq, .of_steps (.one step_scope) harr⟩

set_option maxHeartbeats 1000000 in
set_option maxRecDepth 100000 in
theorem run_any (s : ByteArray) (g : FuncId) (p : UInt8 → Bool) (hp : Tells g p) (eg : ∀ args w, (callFunc g args).run Tryd.prog w = .ok (.enter g args) w) (w : World) (hs : s.size < 4294967281) :
    Calls Tryd.prog 31 #[.string s, .func (.func g) #[] #[]] w fun e w' => e = .returned (.int .i64 (runN p s.data.toList : Nat)) ∧ w' = w := by
  go_enter Tryd.func31, Tryd.ntmps31
  go_wp2
  refine wp_scope_one 0 (fun a' w' => w' = w ∧ ∃ (n : Nat) (u6 u7 u8 u9 u10 u11 u12 u13 u14 u15 u16 u17 u18 : Value), a' = { tmps := #[.string s, .func (.func g) #[] #[], undef, undef, .int .i64 0, .int .i64 n, u6, u7, u8, u9, u10, u11, u12, u13, u14, u15, u16, u17, u18, undef], defers := [] } ∧ n ≤ runN p s.data.toList) (fun a' _ => s.size - (intOf (a'.tmps.getD 5 undef)).toNat) rfl ?_ ?_
  · rintro a' w' ⟨rfl, n, u6, u7, u8, u9, u10, u11, u12, u13, u14, u15, u16, u17, u18, rfl, hn⟩
    have hl := runN_le p s.data.toList
    rw [list_size] at hl
    have hst := runN_step hn
    by_cases h : n < s.size
    · rw [drop_get s n h, runN_cons] at hst
      by_cases hpn : p s[n] = true
      · rw [if_pos hpn] at hst
        go_wp2_with (go_at_fn g; refine (hp _ _).mono ?_; rintro e w1 ⟨rfl, rfl⟩; rw [hpn])
        go_step3
        refine ⟨rfl, ⟨rfl, n + 1, _, _, _, _, _, _, _, _, _, _, _, _, _, rfl, by omega⟩, ?_⟩
        simp [intOf]
        omega
      · rw [if_neg hpn] at hst
        have hpf : p s[n] = false := by simpa using hpn
        go_wp2_with (go_at_fn g; refine (hp _ _).mono ?_; rintro e w1 ⟨rfl, rfl⟩; rw [hpf])
        simp only [Exit.jump]
        go_ret
        exact ⟨by rw [show runN p s.data.toList = n by omega]; rfl, rfl⟩
    · have : n = s.size := by omega
      go_wp2_with fail
      simp only [Exit.jump]
      go_ret
      exact ⟨by rw [show runN p s.data.toList = s.size by omega]; rfl, rfl⟩
  · intro again
    go_wp2
    go_step3
    rename_i hK
    exact hK _ _ (again _ _ ⟨rfl, 0, _, _, _, _, _, _, _, _, _, _, _, _, _, rfl, by omega⟩)

theorem ext_list (s : ByteArray) (i j : Nat) : (s.extract i j).data.toList = (s.data.toList.take j).drop i := by
  rw [ByteArray.data_extract, Array.toList_extract, List.extract_eq_take_drop]
  rw [List.drop_take]
theorem ext_list2 (s : ByteArray) (i : Nat) : (s.extract i s.size).data.toList = s.data.toList.drop i := by
  rw [ext_list, List.take_of_length_le (by simp)]
set_option maxRecDepth 100000 in
theorem comment_any (s : ByteArray) (w : World) (m : Int) (h2 : 2 ≤ s.size) (hs : s.size < 4294967281) (hm : w.cell? ⟨0, 0, none⟩ = some (.int .i64 m)) :
    Calls Tryd.prog 34 #[.string s] w fun e w' => e = .returned (.tuple #[.int .i64 (comP s.data.toList).1, .int .i64 ((comP s.data.toList).2 : Nat)]) ∧ w' = w := by
  have hl := list_size s
  have hg := Lib.index_ge (s.data.toList.drop 2) [42, 47]
  have hx : ∀ W : World, Calls Tryd.prog 45 #[.string (s.extract 2 s.size), .string ⟨#[42, 47]⟩] w fun e w' => e = .returned (.int .i64 (Lib.index (s.data.toList.drop 2) [42, 47])) ∧ w' = w := fun _ => by
    have := Tryd.strings_Index (s.extract 2 s.size) ⟨#[42, 47]⟩ m w (by rw [ByteArray.size_extract]; omega) hm
    rw [ext_list2] at this
    exact this
  unfold comP
  rw [hl]
  by_cases hi : Lib.index (s.data.toList.drop 2) [42, 47] < 0
  · rw [if_pos hi]
    go_enter Tryd.func34, Tryd.ntmps34
    go_wp2_with fail
    refine (hx w).mono ?_
    rintro e w1 ⟨rfl, rfl⟩
    go_wp2
    exact bodyPost_ret (v := .tuple #[.int .i64 (-2), .int .i64 (s.size : Nat)]) (by simp [results, Tryd.results34, go_sem]) rfl ⟨rfl, rfl⟩
  · have hr := index_room _ hi
    rw [List.length_drop, hl] at hr
    rw [if_neg hi]
    generalize Lib.index (s.data.toList.drop 2) [42, 47] = n at *
    obtain ⟨k, rfl⟩ : ∃ k : Nat, n = k := ⟨n.toNat, by omega⟩
    have e4 : ((((k : Int).toNat + 4 : Nat)) : Int) = 2 + k + 2 := by omega
    simp only
    rw [e4]
    go_enter Tryd.func34, Tryd.ntmps34
    go_wp2_with fail
    refine (hx w).mono ?_
    rintro e w1 ⟨rfl, rfl⟩
    go_wp2
    exact bodyPost_ret (v := .tuple #[.int .i64 (-1), .int .i64 (2 + k + 2)]) (by simp [results, Tryd.results34, go_sem]) rfl ⟨rfl, rfl⟩
end Go.Proofs.YtdcamcpffiilbaaDoor
