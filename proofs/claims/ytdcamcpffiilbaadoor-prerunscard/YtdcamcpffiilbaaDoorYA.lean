/-
  The document's token, whatever it is.
-/
import Derived.Test.YtdcamcpffiilbaaDoorXZs
import Derived.Test.YtdcamcpffiilbaaDoorXZn
namespace Go.Proofs.YtdcamcpffiilbaaDoor
open Go.RowKit
set_option linter.unusedSimpArgs false
set_option linter.unusedVariables false
theorem tell1 (t b : Byts8) : tellP 1 t b 0 = measP 1 t := by
  unfold tellP spoilt
  simp
theorem tell4 (t b : Byts8) : tellP 4 t b 0 = (0, 0) := by
  unfold tellP spoilt measP
  simp
theorem tellM (t b : Byts8) : tellP (-2) t b 0 = (0, 200) := by
  unfold tellP
  simp
theorem signP_two (l : Byts8) : (signP l).1 = 4 ∨ (signP l).1 = -2 := by
  unfold signP
  split
  · exact .inl rfl
  · split
    · exact .inl rfl
    · exact .inr rfl
theorem refToken_any (s : ByteArray) (i : Nat) (w : World) (hi : i < s.size) (hs : s.size ≤ 8192) (hb : begN isBl (s.data.toList.drop i) = false) (h1 : pre2 47 47 (s.data.toList.drop i) = false) (h2 : pre2 47 42 (s.data.toList.drop i) = false) :
    Calls Tryd.prog 25 #[.string s, .int .i64 (i : Int)] w (Told (pieceP (s.data.toList.drop i)).1 (s.extract i (i + (pieceP (s.data.toList.drop i)).2)) (tellP (pieceP (s.data.toList.drop i)).1 ((s.data.toList.drop i).take (pieceP (s.data.toList.drop i)).2) ((s.data.toList.drop i).drop (pieceP (s.data.toList.drop i)).2) 0) w) := by
  have eL := begN_at isLt s i hi
  have eD := begN_at isDg s i hi
  have eP := begN_at isPt s i hi
  have eN : begN isDg ((s.data.toList.drop i).drop 1) = isDg (atP s.data.toList (i + 1)) := by rw [List.drop_drop]; exact begN_atP isDg (by decide) _ _
  have hp : pieceP (s.data.toList.drop i) = if isLt s[i] = true then (1, runN isWd (s.data.toList.drop i)) else if (isDg s[i] || (s[i] == 46 && isDg (atP s.data.toList (i + 1)))) = true then numP (s.data.toList.drop i) else signP (s.data.toList.drop i) := by
    unfold pieceP
    rw [if_neg (by rw [hb]; decide), if_neg (by rw [h1]; decide), if_neg (by rw [h2]; decide), eL, eD, eP, eN, isPt_beq]
  rw [hp]
  cases hL : isLt s[i] with
  | true =>
    rw [if_pos rfl]
    show Calls _ _ _ _ (Told 1 _ (tellP 1 _ _ 0) w)
    rw [tell1]
    exact refToken_word s i w hi hs hL
  | false =>
    rw [if_neg (by decide)]
    cases hN : (isDg s[i] || (s[i] == 46 && isDg (atP s.data.toList (i + 1)))) with
    | true =>
      rw [if_pos rfl]
      exact refToken_num s i w hi hs hL hN
    | false =>
      rw [if_neg (by decide)]
      rw [Bool.or_eq_false_iff] at hN
      have hS := refToken_sign s i w hi hs hL hN.1 hN.2
      rcases signP_two (s.data.toList.drop i) with h4 | h4
      · rw [h4, tell4]
        unfold signE at hS
        rw [if_pos h4] at hS
        exact hS
      · rw [h4, tellM]
        unfold signE at hS
        rw [if_neg (by rw [h4]; decide)] at hS
        refine hS.mono ?_
        rintro e w' ⟨k', t', n', he, hk, hx⟩
        exact ⟨k', t', n', he, fun h => absurd h (by decide), hx⟩
end Go.Proofs.YtdcamcpffiilbaaDoor
