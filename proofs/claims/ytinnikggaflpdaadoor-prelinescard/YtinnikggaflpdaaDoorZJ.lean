/-
  The law's same and plain.
-/
import Derived.Test.YtinnikggaflpdaaDoorZI
import Derived.Deep.QuietTactic
import Derived.BigQuiet
namespace Go.Proofs.YtinnikggaflpdaaDoor
open Go.RowKit
set_option linter.unusedSimpArgs false
set_option linter.unusedVariables false

set_option maxHeartbeats 2000000 in
set_option maxRecDepth 100000 in
theorem same11 (A : List Tok) (ao bo : Option Addr) (ca cb : Nat) (w : World) (hA : TR w (.slice ao A.length ca) A) (hB : TR w (.slice bo A.length cb) A) :
    Calls Tryd.prog 12 #[.slice ao A.length ca, .slice bo A.length cb] w fun e w' => e = .returned (.bool true) ∧ Ext w w' := by
  have HA := hide hA
  have HB := hide hB
  have hbig : A.length ≤ 9223372036854775807 := by
    obtain ⟨_, _, _, _, h1, h2, _⟩ := hA
    unfold maxLen at h2
    omega
  clear hA hB
  have hl' : (!((A.length : Int) == (A.length : Int))) = false := by simp
  go_enter Tryd.func12, Tryd.ntmps12
  go_wp2
  go_loopw [13] (fun iv wr => ∃ k : Nat, k ≤ A.length ∧ iv = .int .i64 k ∧ Ext w wr) (fun iv _ => A.length - (intOf iv).toNat)
  case atStart => exact ⟨0, by omega, rfl, Ext.refl _⟩
  case round =>
    obtain ⟨k, hk, rfl, hx⟩ := hrel
    have X := hide hx
    clear hx
    by_cases hlt : k < A.length
    · obtain ⟨b1, o1, rfl, h1⟩ := ((unhide HA).ext (unhide X)).at k hlt
      obtain ⟨b2, o2, rfl, h2⟩ := ((unhide HB).ext (unhide X)).at k hlt
      have c0 := h1.kind; have c1 := h1.text; have c2 := h1.num; have c3 := h1.place; have c4 := h1.line
      have d0 := h2.kind; have d1 := h2.text; have d2 := h2.num; have d3 := h2.place; have d4 := h2.line
      clear h1 h2
      generalize A[k] = x at *
      have q1 : IntKind.i64.wrap (k : Int) = k := by simp [IntKind.wrap, IntKind.bits, IntKind.signed] <;> omega
      go_wp2
      go_quiet (fail)
      go_wp2
      refine ⟨⟨k + 1, by omega, rfl, (unhide X).drewN _⟩, ?_⟩
      simp [intOf]
      omega
    · go_wp2
      go_ret
      exact ⟨rfl, unhide X⟩

/-- Whether a text says nothing here. -/
def plainB (t : Byts8) : Bool := (lexP t).1.all plainT && decide ((lexP t).2.1 = 0)
set_option maxHeartbeats 4000000 in
set_option maxRecDepth 100000 in
theorem plain_any (s : ByteArray) (w : World) (m : Int) (hm : w.cell? ⟨0, 0, none⟩ = some (.int .i64 m)) :
    Calls Tryd.prog 17 #[.string s] w fun e w' => e = .returned (.bool (plainB s.data.toList)) ∧ Ext w w' := by
  have HLX := hide (lex_any s w m hm)
  have hll := (lexP_ok s.data.toList).1
  obtain ⟨b, hb⟩ : ∃ b, plainB s.data.toList = b := ⟨_, rfl⟩
  rw [hb]
  unfold plainB at hb
  obtain ⟨X, hX⟩ : ∃ X, lexP s.data.toList = X := ⟨_, rfl⟩
  rw [hX] at HLX hll hb
  have HB := hide hb
  clear hm hX hb
  go_enter Tryd.func17, Tryd.ntmps17
  go_wp2_with fail
  refine (unhide HLX).mono ?_
  rintro e w2 ⟨ao, ca, rfl, hO2, hx2⟩
  obtain ⟨A, le, lp⟩ := X
  simp only at hO2 hll HB ⊢
  have HA := hide (hO2.tr.ext ((Ext.refl w2).alloc (.cells #[.int .i64 le, .int .i64 lp] 26)))
  have HE := hide (Blk.new w2 #[.int .i64 le, .int .i64 lp] 26)
  have X3 := hide (hx2.alloc (.cells #[.int .i64 le, .int .i64 lp] 26))
  obtain ⟨w3, hw3⟩ : ∃ w3, w3 = w2.alloc (.cells #[.int .i64 le, .int .i64 lp] 26) := ⟨_, rfl⟩
  obtain ⟨pb, hpb⟩ : ∃ pb, pb = w2.heap.size := ⟨_, rfl⟩
  rw [← hw3] at HA HE X3
  rw [← hpb] at HE
  clear hO2 hx2 HLX
  go_wp2
  rw [← hw3, ← hpb]
  clear hw3 hpb
  go_loopw [14] (fun iv wr => ∃ k : Nat, k ≤ A.length ∧ iv = .int .i64 k ∧ (A.take k).all plainT = true ∧ Ext w3 wr) (fun iv _ => A.length - (intOf iv).toNat)
  case atStart => exact ⟨0, by omega, rfl, by simp, Ext.refl _⟩
  case round =>
    obtain ⟨k, hk, rfl, hall, hx⟩ := hrel
    have HALL := hide hall
    have X := hide hx
    clear hall hx
    by_cases hlt : k < A.length
    · obtain ⟨b1, o1, rfl, h1⟩ := ((unhide HA).ext (unhide X)).at k hlt
      have c0 := h1.kind; have c1 := h1.text; have c2 := h1.num; have c3 := h1.place; have c4 := h1.line
      clear h1
      have HBAD : Hid (plainT A[k] = false → b = false) := fun h => by
        rw [← unhide HB]
        have : A.all plainT = false := by
          rw [List.all_eq_false]
          exact ⟨A[k], List.getElem_mem hlt, by rw [h]; decide⟩
        rw [this]
        rfl
      have HGOOD : Hid (plainT A[k] = true → (A.take (k + 1)).all plainT = true) := fun h => by
        rw [List.take_succ_eq_append_getElem hlt, List.all_append, unhide HALL]
        simp [h]
      generalize A[k] = x at *
      have XN : Hid (Ext w (wr.alloc (.cells #[.int .i64 x.kind, .string ⟨x.text.toArray⟩, .int .i32 x.num, .int .i64 x.place, .int .i64 x.line] 35))) := ((unhide X3).trans (unhide X)).alloc _
      have XM : Hid (Ext w3 (wr.alloc (.cells #[.int .i64 x.kind, .string ⟨x.text.toArray⟩, .int .i32 x.num, .int .i64 x.place, .int .i64 x.line] 35))) := (unhide X).alloc _
      cases f1 : (x.text == [35]) with
      | true =>
        have hb0 : b = false := unhide HBAD (by unfold plainT; rw [f1]; rfl)
        subst hb0
        go_wp2
        go_ret
        exact ⟨rfl, unhide XN⟩
      | false =>
        cases f2 : (x.text == [71, 76, 95, 69, 83]) with
        | true =>
          have hb0 : b = false := unhide HBAD (by unfold plainT wGles; rw [f1, f2]; rfl)
          subst hb0
          go_wp2
          go_ret
          exact ⟨rfl, unhide XN⟩
        | false =>
          cases f3 : (x.text == [95, 95, 76, 73, 78, 69, 95, 95]) with
          | true =>
            have hb0 : b = false := unhide HBAD (by unfold plainT wGles wLine; rw [f1, f2, f3]; rfl)
            subst hb0
            go_wp2
            go_ret
            exact ⟨rfl, unhide XN⟩
          | false =>
            cases f4 : (x.text == [95, 95, 86, 69, 82, 83, 73, 79, 78, 95, 95]) with
            | true =>
              have hb0 : b = false := unhide HBAD (by unfold plainT wGles wLine wVers; rw [f1, f2, f3, f4]; rfl)
              subst hb0
              go_wp2
              go_ret
              exact ⟨rfl, unhide XN⟩
            | false =>
              have hg := unhide HGOOD (by unfold plainT wGles wLine wVers; rw [f1, f2, f3, f4]; rfl)
              have HG := hide hg
              clear hg HBAD HGOOD
              go_wp2
              refine ⟨⟨k + 1, by omega, by push_cast; rfl, unhide HG, unhide XM⟩, ?_⟩
              simp [intOf]
              omega
    · have hka : A.take k = A := List.take_of_length_le (by omega)
      have hb0 : b = decide (le = 0) := by
        rw [← unhide HB, ← hka, unhide HALL]
        rfl
      have p0 := ((unhide HE).ext (unhide X)).cell (i := 0) (v := .int .i64 le) rfl
      clear hka
      by_cases hle : le = 0
      · rw [decide_eq_true hle] at hb0
        rw [hle] at p0
        subst hb0
        clear hle
        go_wp2
        go_ret
        exact ⟨rfl, (unhide X3).trans (unhide X)⟩
      · have q0 : (le == 0) = false := beq_eq_false_iff_ne.2 hle
        rw [decide_eq_false hle] at hb0
        subst hb0
        clear hle
        go_wp2
        go_ret
        exact ⟨rfl, (unhide X3).trans (unhide X)⟩
end Go.Proofs.YtinnikggaflpdaaDoor
