/-
  Which tokens may be, and their text: wrong, Check, Print.
-/
import Derived.Test.YtgoldmohmjjngaaXK
import Derived.Test.YtgoldmohmjjngaaXG
import Derived.Test.YtgoldmohmjjngaaXT1
import Derived.Deep.RegionHeld3
import Derived.Deep.RegionWith
namespace Go.Proofs.Ytgoldmohmjjngaa
open Go.RowKit
set_option linter.unusedSimpArgs false
set_option linter.unusedVariables false

/-- Whether a token is not what its text says. -/
def wrongP (t : Tok) : Bool := !sameK (lexP t.text).1 [t]
theorem TR.one (w : World) (t : Tok) : TR (w.alloc (.cells #[.int .i64 t.kind, .string ⟨t.text.toArray⟩, .int .i32 t.num, .int .i64 t.place, .int .i64 t.line] 33)) (.slice (some ⟨w.heap.size, 0, none⟩) 1 1) [t] := by
  have hB := Blk.new w #[.int .i64 t.kind, .string ⟨t.text.toArray⟩, .int .i32 t.num, .int .i64 t.place, .int .i64 t.line] 33
  refine ⟨_, 1, rfl, (fun h => by cases h), Nat.le_refl _, by unfold maxLen; omega, fun i hi => ⟨_, 0, rfl, ?_⟩⟩
  have : i = 0 := by simp at hi; omega
  subst this
  exact ⟨hB.cell rfl, hB.cell rfl, hB.cell rfl, hB.cell rfl, hB.cell rfl⟩
theorem lexT_any (l : Byts8) (w : World) (m : Int) (hm : w.cell? ⟨0, 0, none⟩ = some (.int .i64 m)) : Calls Try.prog 12 #[.string ⟨l.toArray⟩] w (LexQ w (lexP l)) := lex_any ⟨l.toArray⟩ w m hm
set_option maxHeartbeats 1000000 in
theorem wrong_any (t : Tok) (w : World) (m : Int) (hm : w.cell? ⟨0, 0, none⟩ = some (.int .i64 m)) :
    Calls Try.prog 27 #[.agg #[.int .i64 t.kind, .string ⟨t.text.toArray⟩, .int .i32 t.num, .int .i64 t.place, .int .i64 t.line]] w fun e w' => e = .returned (.bool (wrongP t)) ∧ Ext w w' := by
  have HB := hide (Blk.new w #[.int .i64 t.kind, .string ⟨t.text.toArray⟩, .int .i32 t.num, .int .i64 t.place, .int .i64 t.line] 33)
  have HM := hide (keepM hm ((Ext.refl w).alloc (.cells #[.int .i64 t.kind, .string ⟨t.text.toArray⟩, .int .i32 t.num, .int .i64 t.place, .int .i64 t.line] 33)))
  have HW : Hid (Ext w (w.alloc (.cells #[.int .i64 t.kind, .string ⟨t.text.toArray⟩, .int .i32 t.num, .int .i64 t.place, .int .i64 t.line] 33))) := (Ext.refl w).alloc _
  have HLX := lexT_any t.text _ m (unhide HM)
  have hwp : wrongP t = !sameK (lexP t.text).1 [t] := rfl
  rw [hwp]
  generalize lexP t.text = R at HLX ⊢
  obtain ⟨L, r1, r2⟩ := R
  have HLY := hide HLX
  clear HLX hwp
  simp only
  go_enter Try.func27, Try.ntmps27
  go_wp2_with fail
  refine (unhide HLY).mono ?_
  rintro e w1 ⟨ao, cap, rfl, hO, hx⟩
  simp only at hO ⊢
  have hB1 := (unhide HB).ext hx
  have hc : ∀ (o : Obj) j u, w1.cell? ⟨w.heap.size, j, none⟩ = some u → (w1.alloc o).cell? ⟨w.heap.size, j, none⟩ = some u := fun o j u hu => by
    rw [((Ext.refl w1).alloc o).cell (p := ⟨w.heap.size, j, none⟩) (World.block_lt_of_cell? w1 _ hu)]
    exact hu
  have c0 := fun o => hc o _ _ (hB1.cell (i := 0) (v := .int .i64 t.kind) rfl)
  have c1 := fun o => hc o _ _ (hB1.cell (i := 1) (v := .string ⟨t.text.toArray⟩) rfl)
  have c2 := fun o => hc o _ _ (hB1.cell (i := 2) (v := .int .i32 t.num) rfl)
  have c3 := fun o => hc o _ _ (hB1.cell (i := 3) (v := .int .i64 t.place) rfl)
  have c4 := fun o => hc o _ _ (hB1.cell (i := 4) (v := .int .i64 t.line) rfl)
  have hx2 := hx.alloc (.cells #[.int .i64 r1, .int .i64 r2] 27)
  have HT2 := hide (((TO.tr hO).ext ((Ext.refl w1).alloc (.cells #[.int .i64 r1, .int .i64 r2] 27))).ext ((Ext.refl _).alloc (.cells #[.int .i64 t.kind, .string ⟨t.text.toArray⟩, .int .i32 t.num, .int .i64 t.place, .int .i64 t.line] 33)))
  have HT1 := hide (TR.one (w1.alloc (.cells #[.int .i64 r1, .int .i64 r2] 27)) t)
  rw [World.size_alloc] at HT1
  have HX2 := hide (((unhide HW).trans hx2).alloc (.cells #[.int .i64 t.kind, .string ⟨t.text.toArray⟩, .int .i32 t.num, .int .i64 t.place, .int .i64 t.line] 33))
  clear hO hx hx2 HB HM HW hm hB1 hc HLY
  go_wp2_with fail
  refine (same_any L [t] _ _ cap 1 _ (unhide HT2) (unhide HT1)).mono ?_
  rintro e w3 ⟨rfl, hx3⟩
  have HX3 := hide ((unhide HX2).trans hx3)
  clear hx3
  go_wp2
  go_ret
  exact ⟨rfl, unhide HX3⟩

theorem eWrong : ∀ args w, (callFunc 27 args).run Try.prog w = .ok (.enter 27 args) w := enters_of Try.func27 (by kernel_rfl) rfl
set_option maxHeartbeats 1000000 in
theorem indexFunc_any (A : List Tok) (ao : Option Addr) (ca : Nat) (w : World) (m : Int) (hm : w.cell? ⟨0, 0, none⟩ = some (.int .i64 m)) (hA : TR w (.slice ao A.length ca) A) (eg : ∀ args w, (callFunc 27 args).run Try.prog w = .ok (.enter 27 args) w) :
    Calls Try.prog 58 #[.slice ao A.length ca, .func (.func 27) #[] #[]] w fun e w' => (∃ k : Int, e = .returned (.int .i64 k) ∧ decide (0 ≤ k) = A.any wrongP) ∧ Ext w w' := by
  have HA := hide hA
  have HM := hide hm
  have hbig : A.length ≤ 9223372036854775807 := by
    obtain ⟨_, _, _, _, h1, h2, _⟩ := hA
    unfold maxLen at h2
    omega
  clear hA hm
  go_enter Try.func58, Try.ntmps58
  go_wp2
  go_loopw [8] (fun iv wr => ∃ k : Nat, k ≤ A.length ∧ iv = .int .i64 k ∧ (A.take k).any wrongP = false ∧ Ext w wr) (fun iv _ => A.length - (intOf iv).toNat)
  case atStart => exact ⟨0, by omega, rfl, by simp, Ext.refl _⟩
  case round =>
    obtain ⟨k, hk, rfl, hno, hx⟩ := hrel
    have HN := hide hno
    have X := hide hx
    clear hno hx
    by_cases hlt : k < A.length
    · obtain ⟨b1, o1, rfl, h1⟩ := ((unhide HA).ext (unhide X)).at k hlt
      have c0 := h1.kind; have c1 := h1.text; have c2 := h1.num; have c3 := h1.place; have c4 := h1.line
      clear h1
      have HQ := hide (wrong_any A[k] wr m (keepM (unhide HM) (unhide X)))
      have HS : Hid ((A.take (k + 1)).any wrongP = wrongP A[k]) := by
        show (A.take (k + 1)).any wrongP = wrongP A[k]
        rw [List.take_succ_eq_append_getElem hlt, List.any_append, unhide HN]
        simp
      have HS2 : Hid (wrongP A[k] = true → A.any wrongP = true) := fun h => List.any_eq_true.2 ⟨A[k], List.getElem_mem hlt, h⟩
      generalize wrongP A[k] = wp at *
      generalize A[k] = x at *
      cases wp with
      | true =>
        go_wp2_with fail
        refine (unhide HQ).mono ?_
        rintro e w2 ⟨rfl, hx2⟩
        have X2 := hide ((unhide X).trans hx2)
        clear hx2
        go_wp2
        go_ret
        exact ⟨⟨k, rfl, by rw [unhide HS2 (by trivial)]; simp⟩, unhide X2⟩
      | false =>
        go_wp2_with fail
        refine (unhide HQ).mono ?_
        rintro e w2 ⟨rfl, hx2⟩
        have X2 := hide ((unhide X).trans hx2)
        clear hx2
        go_wp2
        refine ⟨⟨k + 1, by omega, rfl, unhide HS, unhide X2⟩, ?_⟩
        simp [intOf]
        omega
    · have hke : k = A.length := by omega
      have hs : A.any wrongP = false := by
        have := unhide HN
        rw [hke, List.take_length] at this
        exact this
      go_wp2
      go_ret
      exact ⟨⟨-1, rfl, by rw [hs]; rfl⟩, unhide X⟩
/-- What Check answers. -/
def checkE (A : List Tok) : Int := if 2048 < A.length ∨ A.any wrongP = true then 2 else 0
theorem contains_any (A : List Tok) (ao : Option Addr) (ca : Nat) (w : World) (m : Int) (hm : w.cell? ⟨0, 0, none⟩ = some (.int .i64 m)) (hA : TR w (.slice ao A.length ca) A) :
    Calls Try.prog 26 #[.slice ao A.length ca, .func (.func 27) #[] #[]] w fun e w' => e = .returned (.bool (A.any wrongP)) ∧ Ext w w' := by
  have HQ := hide (indexFunc_any A ao ca w m hm hA eWrong)
  clear hm hA
  go_enter Try.func26, Try.ntmps26
  go_wp2_with fail
  refine (unhide HQ).mono ?_
  rintro e w2 ⟨⟨k, rfl, hk⟩, hx2⟩
  have X := hide hx2
  have HK := hide hk
  clear hk hx2 HQ
  go_wp2
  go_ret
  exact ⟨by rw [← unhide HK]; rfl, unhide X⟩
theorem check_any (A : List Tok) (ao : Option Addr) (ca : Nat) (w : World) (m : Int) (hm : w.cell? ⟨0, 0, none⟩ = some (.int .i64 m)) (hA : TR w (.slice ao A.length ca) A) :
    Calls Try.prog 15 #[.slice ao A.length ca] w fun e w' => e = .returned (.int .i64 (checkE A)) ∧ Ext w w' := by
  have HQ := hide (contains_any A ao ca w m hm hA)
  clear hm hA
  unfold checkE
  by_cases hbig : 2048 < A.length
  · have d : decide ((2048 : Int) < (A.length : Int)) = true := by simp; omega
    rw [if_pos (.inl hbig)]
    go_enter Try.func15, Try.ntmps15
    go_wp2
    go_ret
    exact ⟨rfl, Ext.refl _⟩
  · have d : decide ((2048 : Int) < (A.length : Int)) = false := by simp; omega
    generalize A.any wrongP = b at *
    cases b with
    | true =>
      rw [if_pos (.inr rfl)]
      go_enter Try.func15, Try.ntmps15
      go_wp2_with fail
      refine (unhide HQ).mono ?_
      rintro e w2 ⟨rfl, hx2⟩
      go_wp2
      go_ret
      exact ⟨rfl, hx2⟩
    | false =>
      rw [if_neg (by simp; omega)]
      go_enter Try.func15, Try.ntmps15
      go_wp2_with fail
      refine (unhide HQ).mono ?_
      rintro e w2 ⟨rfl, hx2⟩
      go_wp2
      go_ret
      exact ⟨rfl, hx2⟩

theorem parting_any (a b : Tok) (w : World) : Calls Try.prog 29 #[.agg #[.int .i64 a.kind, .string ⟨a.text.toArray⟩, .int .i32 a.num, .int .i64 a.place, .int .i64 a.line], .agg #[.int .i64 b.kind, .string ⟨b.text.toArray⟩, .int .i32 b.num, .int .i64 b.place, .int .i64 b.line]] w
    fun e w' => e = .returned (.int .u8 (((if a.line < b.line then 10 else 32 : UInt8).toNat : Nat) : Int)) ∧ Ext w w' := by
  by_cases h : a.line < b.line
  · have d : decide (a.line < b.line) = true := by simpa using h
    rw [if_pos h]
    clear h
    go_enter Try.func29, Try.ntmps29
    go_wp2
    go_ret
    exact ⟨rfl, ((Ext.refl w).alloc _).alloc _⟩
  · have d : decide (a.line < b.line) = false := by simpa using h
    rw [if_neg h]
    clear h
    go_enter Try.func29, Try.ntmps29
    go_wp2
    go_ret
    exact ⟨rfl, ((Ext.refl w).alloc _).alloc _⟩
end Go.Proofs.Ytgoldmohmjjngaa
