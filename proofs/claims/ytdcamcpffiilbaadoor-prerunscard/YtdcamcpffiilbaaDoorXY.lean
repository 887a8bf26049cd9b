/-
  The document's token: words; one, two: the signs.
-/
import Derived.Test.YtdcamcpffiilbaaDoorXXJ
import Derived.Test.YtdcamcpffiilbaaDoorXE
import Derived.Test.YtdcamcpffiilbaaDoorXF
import Derived.Deep.QuietTactic
import Derived.BigQuiet
namespace Go.Proofs.YtdcamcpffiilbaaDoor
open Go.RowKit
set_option linter.unusedSimpArgs false
set_option linter.unusedVariables false

def zTok : Array Value := #[.int .i64 0, .string ⟨#[]⟩, .int .i32 0, .int .i64 0, .int .i64 0]
/-- The byte at a place, and a run from a place on. -/
theorem run_at (p : UInt8 → Bool) (h0 : p 0 = false) (l : Byts8) (i j : Nat) (hj : j ≤ runN p (l.drop i)) : (p (atP l (i + j)) = true ↔ j + 1 ≤ runN p (l.drop i)) := by
  have hst := runN_step hj
  rw [List.drop_drop] at hst
  by_cases h : i + j < l.length
  · have e : atP l (i + j) = l[i + j] := by unfold atP; simp [h]
    rw [List.drop_eq_getElem_cons h, runN_cons] at hst
    rw [e]
    by_cases hp : p l[i + j] = true
    · rw [if_pos hp] at hst
      exact ⟨fun _ => by omega, fun _ => hp⟩
    · rw [if_neg hp] at hst
      exact ⟨fun h2 => absurd h2 hp, fun h2 => by omega⟩
  · have e : atP l (i + j) = 0 := by unfold atP; rw [List.getD_eq_getElem?_getD, List.getElem?_eq_none (by omega)]; rfl
    rw [e, h0]
    rw [List.drop_of_length_le (by omega)] at hst
    have : runN p ([] : Byts8) = 0 := rfl
    exact ⟨fun h2 => absurd h2 (by simp), fun h2 => by omega⟩

def wordE (z : Nat) : Int × Int := if 32 < z then (0, 3) else (0, 0)
set_option maxHeartbeats 4000000 in
set_option maxRecDepth 100000 in
theorem refToken_word (s : ByteArray) (i : Nat) (w : World) (hi : i < s.size) (hs : s.size ≤ 8192) (hlt : isLt s[i] = true) :
    Calls Tryd.prog 25 #[.string s, .int .i64 (i : Int)] w (Told 1 (s.extract i (i + runN isWd (s.data.toList.drop i))) (measP 1 ((s.data.toList.drop i).take (runN isWd (s.data.toList.drop i)))) w) := by
  have hl := list_size s
  have HLT := hide (refLetter_any s[i])
  rw [hlt] at HLT
  have hrl := runN_le isWd (s.data.toList.drop i)
  rw [List.length_drop, hl] at hrl
  have HRA := hide (fun j hj => run_at isWd (by decide) s.data.toList i j hj)
  have htl : ((s.data.toList.drop i).take (runN isWd (s.data.toList.drop i))).length = runN isWd (s.data.toList.drop i) := by
    rw [List.length_take, List.length_drop, hl]
    omega
  have hme : measP 1 ((s.data.toList.drop i).take (runN isWd (s.data.toList.drop i))) = wordE (runN isWd (s.data.toList.drop i)) := by
    unfold measP wordE
    rw [if_pos rfl, htl]
  rw [hme]
  clear hme htl hlt
  generalize runN isWd (s.data.toList.drop i) = z at *
  go_enter Tryd.func25, Tryd.ntmps25
  go_wp2_with fail
  refine (unhide HLT _).mono ?_
  rintro e w1 ⟨rfl, rfl⟩
  clear HLT
  go_wp2_with fail
  go_loopw [7] (fun kv wr => ∃ j : Nat, j ≤ z ∧ kv = .int .i64 ((i + j : Nat) : Int) ∧ wr = w.alloc (.cells #[.int .i64 0, .string ⟨#[]⟩, .int .i32 0, .int .i64 0, .int .i64 0] 33)) (fun kv _ => i + z - (intOf kv).toNat)
  case atStart => exact ⟨0, by omega, rfl, rfl⟩
  case round =>
    obtain ⟨j, hj, rfl, rfl⟩ := hrel
    have hra := unhide HRA j hj
    have HAT := hide (fun W => refAt_any s (i + j) W)
    generalize atP s.data.toList (i + j) = c at *
    have HC1 := hide (fun W => refLetter_any c W)
    have HC2 := hide (fun W => refDigit_any c W)
    have hwd : isWd c = (isLt c || isDg c) := rfl
    rw [hwd] at hra
    generalize isLt c = b1 at *
    generalize isDg c = b2 at *
    cases b1 with
    | true =>
      have hjz : j + 1 ≤ z := hra.1 rfl
      go_wp2_with (first | (go_at_call 55; refine (unhide HAT _).mono ?_; rintro e w1 ⟨rfl, rfl⟩) | (go_at_call 56; refine (unhide HC1 _).mono ?_; rintro e w1 ⟨rfl, rfl⟩))
      refine ⟨⟨j + 1, hjz, rfl, trivial⟩, ?_⟩
      simp [intOf]
      omega
    | false =>
      cases b2 with
      | true =>
        have hjz : j + 1 ≤ z := hra.1 rfl
        go_wp2_with (first | (go_at_call 55; refine (unhide HAT _).mono ?_; rintro e w1 ⟨rfl, rfl⟩) | (go_at_call 56; refine (unhide HC1 _).mono ?_; rintro e w1 ⟨rfl, rfl⟩) | (go_at_call 57; refine (unhide HC2 _).mono ?_; rintro e w1 ⟨rfl, rfl⟩))
        refine ⟨⟨j + 1, hjz, rfl, trivial⟩, ?_⟩
        simp [intOf]
        omega
      | false =>
        have hjz : j = z := by
          have : ¬ (j + 1 ≤ z) := fun h => by have := hra.2 h; simp at this
          omega
        subst hjz
        by_cases h32 : 32 < j
        · have d32 : decide ((32 : Int) < (j : Int)) = true := by simp; omega
          have hw := hide (show wordE j = (0, 3) by unfold wordE; rw [if_pos h32])
          go_wp2_with (first | (go_at_call 55; refine (unhide HAT _).mono ?_; rintro e w1 ⟨rfl, rfl⟩) | (go_at_call 56; refine (unhide HC1 _).mono ?_; rintro e w1 ⟨rfl, rfl⟩) | (go_at_call 57; refine (unhide HC2 _).mono ?_; rintro e w1 ⟨rfl, rfl⟩))
          refine bodyPost_ret (v := .tuple #[.agg zTok, .int .i64 3]) (by simp [results, Tryd.results25, go_sem, zTok]) rfl ?_
          rw [unhide hw]
          exact Told.bad (p := (0, 3)) (by decide) ((Ext.refl _).alloc _)
        · have d32 : decide ((32 : Int) < (j : Int)) = false := by simp; omega
          have hw := hide (show wordE j = (0, 0) by unfold wordE; rw [if_neg h32])
          go_wp2_with (first | (go_at_call 55; refine (unhide HAT _).mono ?_; rintro e w1 ⟨rfl, rfl⟩) | (go_at_call 56; refine (unhide HC1 _).mono ?_; rintro e w1 ⟨rfl, rfl⟩) | (go_at_call 57; refine (unhide HC2 _).mono ?_; rintro e w1 ⟨rfl, rfl⟩))
          refine bodyPost_ret (v := .tuple #[.agg #[.int .i64 1, .string (s.extract i (i + j)), .int .i32 0, .int .i64 0, .int .i64 0], .int .i64 0]) (by simp [results, Tryd.results25, go_sem]) rfl ?_
          rw [unhide hw]
          exact Told.good (p := (0, 0)) ((Ext.refl _).alloc _)

end Go.Proofs.YtdcamcpffiilbaaDoor
