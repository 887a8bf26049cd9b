/-
  Numbers, signs: what a text begins with.
-/
import Derived.Test.YtdcamcpffiilbaaDoorXB
namespace Go.Proofs.YtdcamcpffiilbaaDoor
open Go.RowKit
set_option linter.unusedSimpArgs false
set_option linter.unusedVariables false

theorem eDigit : ∀ args w, (callFunc 37 args).run Tryd.prog w = .ok (.enter 37 args) w := enters_of Tryd.func37 (by kernel_rfl) rfl
theorem ePoint : ∀ args w, (callFunc 63 args).run Tryd.prog w = .ok (.enter 63 args) w := enters_of Tryd.func63 (by kernel_rfl) rfl
theorem eLetter : ∀ args w, (callFunc 35 args).run Tryd.prog w = .ok (.enter 35 args) w := enters_of Tryd.func35 (by kernel_rfl) rfl
theorem eWord : ∀ args w, (callFunc 36 args).run Tryd.prog w = .ok (.enter 36 args) w := enters_of Tryd.func36 (by kernel_rfl) rfl
theorem eBlank : ∀ args w, (callFunc 30 args).run Tryd.prog w = .ok (.enter 30 args) w := enters_of Tryd.func30 (by kernel_rfl) rfl
theorem eLine : ∀ args w, (callFunc 33 args).run Tryd.prog w = .ok (.enter 33 args) w := enters_of Tryd.func33 (by kernel_rfl) rfl

/-- A run of the text from a place on. -/
theorem run_from (s : ByteArray) (k : Nat) (g : FuncId) (p : UInt8 → Bool) (hp : Tells g p) (eg : ∀ args w, (callFunc g args).run Tryd.prog w = .ok (.enter g args) w) (w : World) (hs : s.size < 4294967281) :
    Calls Tryd.prog 31 #[.string (s.extract k s.size), .func (.func g) #[] #[]] w fun e w' => e = .returned (.int .i64 (runN p (s.data.toList.drop k) : Nat)) ∧ w' = w := by
  have := run_any (s.extract k s.size) g p hp eg w (by rw [ByteArray.size_extract]; omega)
  rw [ext_list2] at this
  exact this
theorem begins_from (s : ByteArray) (k : Nat) (g : FuncId) (p : UInt8 → Bool) (hp : Tells g p) (eg : ∀ args w, (callFunc g args).run Tryd.prog w = .ok (.enter g args) w) (w : World) :
    Calls Tryd.prog 38 #[.string (s.extract k s.size), .func (.func g) #[] #[]] w fun e w' => e = .returned (.bool (begN p (s.data.toList.drop k))) ∧ w' = w := by
  have := begins_any (s.extract k s.size) g p hp eg w
  rw [ext_list2] at this
  exact this

set_option maxHeartbeats 1000000 in
set_option maxRecDepth 100000 in
theorem lexNumber_any (s : ByteArray) (w : World) (hs : s.size < 4294967281) :
    Calls Tryd.prog 39 #[.string s] w fun e w' => e = .returned (.tuple #[.int .i64 (numP s.data.toList).1, .int .i64 ((numP s.data.toList).2 : Nat)]) ∧ w' = w := by
  have hl := list_size s
  have hd := runN_le isDg s.data.toList
  have hd2 := runN_bound isDg s.data.toList (runN isDg s.data.toList + 1)
  have hlt : begN isPt (s.data.toList.drop (runN isDg s.data.toList)) = true → runN isDg s.data.toList + 1 ≤ s.size := fun h => by have := begN_drop h; omega
  have r0 := fun W => run_any s _ _ isDigit_any eDigit W hs
  have r1 := fun W => run_from s (runN isDg s.data.toList + 1) _ _ isDigit_any eDigit W hs
  have b0 := fun W => begins_from s (runN isDg s.data.toList) _ _ isPoint_any ePoint W
  unfold numP
  generalize begN isPt (s.data.toList.drop (runN isDg s.data.toList)) = bp at *
  generalize runN isDg (s.data.toList.drop (runN isDg s.data.toList + 1)) = f at *
  generalize runN isDg s.data.toList = d at *
  rw [hl] at hd hd2
  clear hl
  have R0 := hide r0; have R1 := hide r1; have B0 := hide b0
  clear r0 r1 b0
  go_enter Tryd.func39, Tryd.ntmps39
  go_wp2
  refine wp_scope_one 0 (fun a' w' => w' = w ∧ ∃ (k : Int) (n : Nat) (u4 u5 u6 u7 u8 u9 u10 u11 u12 u13 u14 u15 u16 u17 u18 u19 : Value), a' = { tmps := #[.string s, undef, .int .i64 k, .int .i64 n, u4, u5, u6, u7, u8, u9, u10, u11, u12, u13, u14, u15, u16, u17, u18, u19, undef, undef], defers := [] } ∧ ((k = 2 ∧ n = 0) ∨ (k = 3 ∧ n = d + 1 ∧ bp = true))) (fun a' _ => (3 - intOf (a'.tmps.getD 2 undef)).toNat) rfl ?_ ?_
  · rintro a' w' ⟨rfl, k, n, u4, u5, u6, u7, u8, u9, u10, u11, u12, u13, u14, u15, u16, u17, u18, u19, rfl, ⟨rfl, rfl⟩ | ⟨rfl, rfl, hbt⟩⟩
    · cases bp with
      | true =>
        have hlt := hlt rfl
        go_wp2_with fail
        refine (unhide R0 _).mono ?_
        rintro e w1 ⟨rfl, rfl⟩
        go_wp2_with fail
        refine (unhide B0 _).mono ?_
        rintro e w1 ⟨rfl, rfl⟩
        go_wp2
        go_step3
        refine ⟨rfl, ⟨rfl, 3, d + 1, _, _, _, _, _, _, _, _, _, _, _, _, _, _, _, _, rfl, .inr ⟨rfl, rfl, rfl⟩⟩, ?_⟩
        simp [intOf]
      | false =>
        go_wp2_with fail
        refine (unhide R0 _).mono ?_
        rintro e w1 ⟨rfl, rfl⟩
        go_wp2_with fail
        refine (unhide B0 _).mono ?_
        rintro e w1 ⟨rfl, rfl⟩
        go_wp2
        simp only [Exit.jump]
        exact bodyPost_ret (v := .tuple #[.int .i64 2, .int .i64 (d : Nat)]) (by simp [results, Tryd.results39, go_sem]) rfl ⟨rfl, rfl⟩
    · subst hbt
      have hlt := hlt rfl
      go_wp2_with (first | (go_at_call 31; refine (unhide R1 _).mono ?_; rintro e w1 ⟨rfl, rfl⟩))
      simp only [Exit.jump]
      exact bodyPost_ret (v := .tuple #[.int .i64 3, .int .i64 ((d + 1 + f : Nat) : Int)]) (by simp [results, Tryd.results39, go_sem]) rfl ⟨rfl, rfl⟩
  · intro again
    go_wp2
    go_step3
    rename_i hK
    exact hK _ _ (again _ _ ⟨rfl, 2, 0, _, _, _, _, _, _, _, _, _, _, _, _, _, _, _, _, rfl, .inl ⟨rfl, rfl⟩⟩)

end Go.Proofs.YtdcamcpffiilbaaDoor
