/-
  What a text begins with; a token's number, and what is wrong with it.
-/
import Derived.Test.YtdcamcpffiilbaaDoorXC
import Derived.Test.YtdcamcpffiilbaaDoorXCs
namespace Go.Proofs.YtdcamcpffiilbaaDoor
open Go.RowKit
set_option linter.unusedSimpArgs false
set_option linter.unusedVariables false

theorem pre2_ba (s : ByteArray) (x y : UInt8) (w : World) : Calls Tryd.prog 32 #[.string s, .string ⟨#[x, y]⟩] w fun e w' => e = .returned (.bool (pre2 x y s.data.toList)) ∧ w' = w := Tryd.strings_HasPrefix s ⟨#[x, y]⟩ w

set_option maxHeartbeats 4000000 in
set_option maxRecDepth 100000 in
theorem piece_any (s : ByteArray) (w : World) (m : Int) (h1 : 1 ≤ s.size) (hs : s.size < 4294967281) (hm : w.cell? ⟨0, 0, none⟩ = some (.int .i64 m)) :
    Calls Tryd.prog 16 #[.string s] w fun e w' => e = .returned (.tuple #[.int .i64 (pieceP s.data.toList).1, .int .i64 ((pieceP s.data.toList).2 : Nat)]) ∧ w' = w := by
  have hl := list_size s
  have HB := hide (isBlank_any s[0])
  have HL := hide (isLetter_any s[0])
  have HD := hide (isDigit_any s[0])
  have H2 : Hid (pre2 47 42 s.data.toList = true → 2 ≤ s.size) := fun h => by
    obtain ⟨r, hr⟩ := pre2_split h
    rw [hr] at hl
    simp at hl
    omega
  unfold pieceP
  rw [begN_ba isBl s (by omega), begN_ba isLt s (by omega), begN_ba isDg s (by omega), begN_ba isPt s (by omega)]
  by_cases c1 : isBl s[0] = true
  · rw [if_pos c1]
    rw [c1] at HB
    go_enter Tryd.func16, Tryd.ntmps16
    go_wp2_with (first | (go_at_call 30; refine (unhide HB _).mono ?_; rintro e w1 ⟨rfl, rfl⟩) | (go_at_call 31; refine (run_any s _ _ isBlank_any eBlank _ hs).mono ?_; rintro e w1 ⟨rfl, rfl⟩))
    exact bodyPost_ret (v := .tuple #[.int .i64 (-1), .int .i64 (runN isBl s.data.toList : Nat)]) (by simp [results, Tryd.results16, go_sem]) rfl ⟨rfl, rfl⟩
  rw [if_neg c1]
  have c1' : isBl s[0] = false := by simpa using c1
  rw [c1'] at HB
  clear c1 c1'
  have HP := hide (fun W => pre2_ba s 47 47 W)
  have HQ := hide (fun W => pre2_ba s 47 42 W)
  by_cases c2 : pre2 47 47 s.data.toList = true
  · rw [if_pos c2]
    rw [c2] at HP
    clear c2
    go_enter Tryd.func16, Tryd.ntmps16
    go_wp2_with (first | (go_at_call 30; refine (unhide HB _).mono ?_; rintro e w1 ⟨rfl, rfl⟩) | (go_at_call 32; refine (unhide HP _).mono ?_; rintro e w1 ⟨rfl, rfl⟩) | (go_at_call 31; refine (run_any s _ _ isWithinLine_any eLine _ hs).mono ?_; rintro e w1 ⟨rfl, rfl⟩))
    exact bodyPost_ret (v := .tuple #[.int .i64 (-1), .int .i64 (runN isLn s.data.toList : Nat)]) (by simp [results, Tryd.results16, go_sem]) rfl ⟨rfl, rfl⟩
  rw [if_neg c2]
  have c2' : pre2 47 47 s.data.toList = false := by simpa using c2
  rw [c2'] at HP
  clear c2 c2'
  by_cases c3 : pre2 47 42 s.data.toList = true
  · rw [if_pos c3]
    have h2 := unhide H2 c3
    rw [c3] at HQ
    clear c3 H2
    go_enter Tryd.func16, Tryd.ntmps16
    go_wp2_with fail
    refine (unhide HB _).mono ?_
    rintro e w1 ⟨rfl, rfl⟩
    go_wp2_with fail
    refine (unhide HP _).mono ?_
    rintro e w1 ⟨rfl, rfl⟩
    go_wp2_with fail
    refine (unhide HQ _).mono ?_
    rintro e w1 ⟨rfl, rfl⟩
    go_wp2_with fail
    refine (comment_any s _ m h2 hs hm).mono ?_
    rintro e w1 ⟨rfl, rfl⟩
    go_wp2
    exact bodyPost_ret (v := .tuple #[.int .i64 (comP s.data.toList).1, .int .i64 ((comP s.data.toList).2 : Nat)]) (by simp [results, Tryd.results16, go_sem]) rfl ⟨rfl, rfl⟩
  rw [if_neg c3]
  have c3' : pre2 47 42 s.data.toList = false := by simpa using c3
  rw [c3'] at HQ
  clear c3 c3' H2
  by_cases c4 : isLt s[0] = true
  · rw [if_pos c4]
    rw [c4] at HL
    clear c4
    go_enter Tryd.func16, Tryd.ntmps16
    go_wp2_with fail
    refine (unhide HB _).mono ?_
    rintro e w1 ⟨rfl, rfl⟩
    go_wp2_with fail
    refine (unhide HP _).mono ?_
    rintro e w1 ⟨rfl, rfl⟩
    go_wp2_with fail
    refine (unhide HQ _).mono ?_
    rintro e w1 ⟨rfl, rfl⟩
    go_wp2_with fail
    refine (unhide HL _).mono ?_
    rintro e w1 ⟨rfl, rfl⟩
    go_wp2_with fail
    refine (run_any s _ _ isWord_any eWord _ hs).mono ?_
    rintro e w1 ⟨rfl, rfl⟩
    go_wp2
    exact bodyPost_ret (v := .tuple #[.int .i64 1, .int .i64 (runN isWd s.data.toList : Nat)]) (by simp [results, Tryd.results16, go_sem]) rfl ⟨rfl, rfl⟩
  rw [if_neg c4]
  have c4' : isLt s[0] = false := by simpa using c4
  rw [c4'] at HL
  clear c4 c4'
  by_cases c5 : isDg s[0] = true
  · rw [if_pos (by rw [c5]; rfl)]
    rw [c5] at HD
    clear c5
    go_enter Tryd.func16, Tryd.ntmps16
    go_wp2_with fail
    refine (unhide HB _).mono ?_
    rintro e w1 ⟨rfl, rfl⟩
    go_wp2_with fail
    refine (unhide HP _).mono ?_
    rintro e w1 ⟨rfl, rfl⟩
    go_wp2_with fail
    refine (unhide HQ _).mono ?_
    rintro e w1 ⟨rfl, rfl⟩
    go_wp2_with fail
    refine (unhide HL _).mono ?_
    rintro e w1 ⟨rfl, rfl⟩
    go_wp2_with fail
    refine (unhide HD _).mono ?_
    rintro e w1 ⟨rfl, rfl⟩
    go_wp2_with fail
    refine (lexNumber_any s _ hs).mono ?_
    rintro e w1 ⟨rfl, rfl⟩
    go_wp2
    exact bodyPost_ret (v := .tuple #[.int .i64 (numP s.data.toList).1, .int .i64 ((numP s.data.toList).2 : Nat)]) (by simp [results, Tryd.results16, go_sem]) rfl ⟨rfl, rfl⟩
  have c5' : isDg s[0] = false := by simpa using c5
  rw [c5', Bool.false_or]
  rw [c5'] at HD
  clear c5 c5'
  by_cases c6 : isPt s[0] = true
  · rw [c6, Bool.true_and]
    have HE := hide (fun W => begins_from s 1 _ _ isDigit_any eDigit W)
    have e46 : ((s[0].toNat : Int) == 46) = true := by
      simp only [isPt, decide_eq_true_eq] at c6
      rw [c6]
      rfl
    clear c6
    generalize begN isDg (s.data.toList.drop 1) = bd at *
    cases bd with
    | true =>
      rw [if_pos rfl]
      go_enter Tryd.func16, Tryd.ntmps16
      go_wp2_with fail
      refine (unhide HB _).mono ?_
      rintro e w1 ⟨rfl, rfl⟩
      go_wp2_with fail
      refine (unhide HP _).mono ?_
      rintro e w1 ⟨rfl, rfl⟩
      go_wp2_with fail
      refine (unhide HQ _).mono ?_
      rintro e w1 ⟨rfl, rfl⟩
      go_wp2_with fail
      refine (unhide HL _).mono ?_
      rintro e w1 ⟨rfl, rfl⟩
      go_wp2_with fail
      refine (unhide HD _).mono ?_
      rintro e w1 ⟨rfl, rfl⟩
      go_wp2_with fail
      refine (unhide HE _).mono ?_
      rintro e w1 ⟨rfl, rfl⟩
      go_wp2_with fail
      refine (lexNumber_any s _ hs).mono ?_
      rintro e w1 ⟨rfl, rfl⟩
      go_wp2
      exact bodyPost_ret (v := .tuple #[.int .i64 (numP s.data.toList).1, .int .i64 ((numP s.data.toList).2 : Nat)]) (by simp [results, Tryd.results16, go_sem]) rfl ⟨rfl, rfl⟩
    | false =>
      rw [if_neg (by decide)]
      go_enter Tryd.func16, Tryd.ntmps16
      go_wp2_with fail
      refine (unhide HB _).mono ?_
      rintro e w1 ⟨rfl, rfl⟩
      go_wp2_with fail
      refine (unhide HP _).mono ?_
      rintro e w1 ⟨rfl, rfl⟩
      go_wp2_with fail
      refine (unhide HQ _).mono ?_
      rintro e w1 ⟨rfl, rfl⟩
      go_wp2_with fail
      refine (unhide HL _).mono ?_
      rintro e w1 ⟨rfl, rfl⟩
      go_wp2_with fail
      refine (unhide HD _).mono ?_
      rintro e w1 ⟨rfl, rfl⟩
      go_wp2_with fail
      refine (unhide HE _).mono ?_
      rintro e w1 ⟨rfl, rfl⟩
      go_wp2_with fail
      refine (sign_any s _ h1 hs).mono ?_
      rintro e w1 ⟨rfl, rfl⟩
      go_wp2
      exact bodyPost_ret (v := .tuple #[.int .i64 (signP s.data.toList).1, .int .i64 ((signP s.data.toList).2 : Nat)]) (by simp [results, Tryd.results16, go_sem]) rfl ⟨rfl, rfl⟩
  · have c6' : isPt s[0] = false := by simpa using c6
    rw [c6', Bool.false_and, if_neg (by decide)]
    have e46 : ((s[0].toNat : Int) == 46) = false := by
      simp only [isPt, decide_eq_false_iff_not] at c6'
      rw [beq_eq_false_iff_ne]
      omega
    clear c6 c6'
    go_enter Tryd.func16, Tryd.ntmps16
    go_wp2_with fail
    refine (unhide HB _).mono ?_
    rintro e w1 ⟨rfl, rfl⟩
    go_wp2_with fail
    refine (unhide HP _).mono ?_
    rintro e w1 ⟨rfl, rfl⟩
    go_wp2_with fail
    refine (unhide HQ _).mono ?_
    rintro e w1 ⟨rfl, rfl⟩
    go_wp2_with fail
    refine (unhide HL _).mono ?_
    rintro e w1 ⟨rfl, rfl⟩
    go_wp2_with fail
    refine (unhide HD _).mono ?_
    rintro e w1 ⟨rfl, rfl⟩
    go_wp2_with fail
    refine (sign_any s _ h1 hs).mono ?_
    rintro e w1 ⟨rfl, rfl⟩
    go_wp2
    exact bodyPost_ret (v := .tuple #[.int .i64 (signP s.data.toList).1, .int .i64 ((signP s.data.toList).2 : Nat)]) (by simp [results, Tryd.results16, go_sem]) rfl ⟨rfl, rfl⟩
end Go.Proofs.YtdcamcpffiilbaaDoor
