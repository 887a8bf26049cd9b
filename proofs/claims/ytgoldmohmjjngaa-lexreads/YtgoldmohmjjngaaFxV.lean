/-
  The document's Parse answers what fix's does, at every text.
-/
import Derived.Test.YtgoldmohmjjngaaFxSmp
import Derived.Test.YtgoldmohmjjngaaFxSmw
import Derived.Test.YtgoldmohmjjngaaFxSnp
import Derived.Test.YtgoldmohmjjngaaFxSnw
import Derived.Test.YtgoldmohmjjngaaFxSbad
namespace Go.Proofs.Ytgoldmohmjjngaa
open Go.RowKit
set_option linter.unusedSimpArgs false
set_option linter.unusedVariables false

theorem number_same (A B : List UInt8) (m g pt : Bool) (U : Int) (hA : ∀ c ∈ A, isDig c) (hB : ∀ c ∈ B, isDig c) :
    Dec.number ⟨m, g, pt, wfold A 0, pval B 100000000000000000, U⟩ = rawI (if m then -rawHalf A B else rawHalf A B) := by
  have h1 := wfold_eq A 0 (by omega) hA
  have h2 := nfold_eq A 0 (by omega) hA
  rw [show min (0 : Int) 65536 = 0 by omega] at h1
  rw [show min (0 : Int) 1048576 = 0 by omega] at h2
  have h3 := pval_valN B 17 hB
  have h4 := part_round (valN B) B.length
  have hlt := valN_lt B hB
  have hq : valN B * 131072 / 10 ^ B.length < 131072 := by
    rw [Nat.div_lt_iff_lt_mul (Nat.pow_pos (by omega)), Nat.mul_comm]
    exact Nat.mul_lt_mul_of_pos_left hlt (by omega)
  have e17 : (((10 ^ 17 : Nat) : Int)) = 100000000000000000 := by rfl
  rw [e17] at h3
  show rawI (if m then -(wfold A 0 * 65536 + (pval B 100000000000000000 + 762939453125) / 1525878906250) else wfold A 0 * 65536 + (pval B 100000000000000000 + 762939453125) / 1525878906250) = _
  rw [h1, h3, h4]
  unfold rawHalf
  rw [h2]
  clear h1 h2 h3 h4 e17 hlt
  generalize valN B * 131072 / 10 ^ B.length = q at *
  have hD := dval_ge A 0 (by omega) hA
  generalize dval A 0 = D at *
  cases m
  · simp only [Bool.false_eq_true, if_false]
    unfold rawI clampI
    omega
  · simp only [if_true]
    unfold rawI clampI
    omega

theorem scan_good_w (A : List UInt8) (f m : Bool) (hA : ∀ c ∈ A, isDig c) (hk : A ≠ []) :
    scan A f ⟨m, false, false, 0, 0, 100000000000000000⟩ = (true, ⟨m, true, false, wfold A 0, pval [] 100000000000000000, 100000000000000000⟩) := by
  have h := scan_wholes A [] f m false 0 0 100000000000000000 hA
  rw [List.append_nil] at h
  rw [h]
  have hne : A.isEmpty = false := by simpa using hk
  simp [scan, hne, pval]
theorem scan_good_p (A B : List UInt8) (f m : Bool) (hA : ∀ c ∈ A, isDig c) (hB : ∀ c ∈ B, isDig c) :
    ∃ U, scan (A ++ 46 :: B) f ⟨m, false, false, 0, 0, 100000000000000000⟩ = (true, ⟨m, !A.isEmpty || !B.isEmpty, true, wfold A 0, pval B 100000000000000000, U⟩) := by
  rw [scan_wholes A _ f m false 0 0 100000000000000000 hA, scan, if_neg (by simp), if_pos ⟨rfl, rfl⟩]
  obtain ⟨U, e⟩ := scan_part B m (false || !A.isEmpty) (wfold A 0) 0 100000000000000000 hB
  refine ⟨U, ?_⟩
  rw [e]
  simp
theorem scan_bad (A : List UInt8) (c : UInt8) (r : List UInt8) (f m : Bool) (hA : ∀ c ∈ A, isDig c) (hc : ¬ isDig c) (h46 : c ≠ 46) (hf : c ≠ 45 ∨ f = false ∨ A ≠ []) :
    (scan (A ++ c :: r) f ⟨m, false, false, 0, 0, 100000000000000000⟩).1 = false := by
  rw [scan_wholes A _ f m false 0 0 100000000000000000 hA, scan, if_neg, if_neg (fun h => h46 h.1)]
  · rw [if_neg]
    exact hc
  · intro h
    rcases hf with hf | hf | hf
    · exact hf h.1
    · rw [hf] at h; simp at h
    · have hne : A.isEmpty = false := by simpa using hf
      rw [hne] at h
      simp at h
theorem scan_part_bad (B : List UInt8) (c : UInt8) (r : List UInt8) (m g : Bool) (W P U : Int) (hB : ∀ c ∈ B, isDig c) (hc : ¬ isDig c) :
    (scan (B ++ c :: r) false ⟨m, g, true, W, P, U⟩).1 = false := by
  induction B generalizing g P U with
  | nil =>
    rw [List.nil_append, scan, if_neg (by simp), if_neg (by simp), if_neg]
    exact hc
  | cons x B ih =>
    rw [List.cons_append, scan_dig x _ _ _ (hB x (by simp))]
    simp only [Dec.digit, if_true]
    exact ih _ _ _ (fun y hy => hB y (by simp [hy]))
theorem scan_twice (A B : List UInt8) (c : UInt8) (r : List UInt8) (f m : Bool) (hA : ∀ c ∈ A, isDig c) (hB : ∀ c ∈ B, isDig c) (hc : ¬ isDig c) :
    (scan (A ++ 46 :: (B ++ c :: r)) f ⟨m, false, false, 0, 0, 100000000000000000⟩).1 = false := by
  rw [scan_wholes A _ f m false 0 0 100000000000000000 hA, scan, if_neg (by simp), if_pos ⟨rfl, rfl⟩]
  exact scan_part_bad B c r _ _ _ _ _ hB hc

/-- What Parse answers, once the minus is taken. -/
def parsed (b : List UInt8) (f m : Bool) : Int × Int :=
  if ((scan b f ⟨m, false, false, 0, 0, 100000000000000000⟩).1 && (scan b f ⟨m, false, false, 0, 0, 100000000000000000⟩).2.digits) = true then ((scan b f ⟨m, false, false, 0, 0, 100000000000000000⟩).2.number, 0) else (0, 120)
theorem parseI_minus (b : List UInt8) (h : (45 :: b).length ≤ 40) : parseI (45 :: b) = parsed b false true := by
  have e : scan (45 :: b) true Dec.start = scan b false ⟨true, false, false, 0, 0, 100000000000000000⟩ := by
    rw [scan, if_pos ⟨rfl, rfl⟩]
    rfl
  unfold parseI parsed
  rw [if_neg (by omega), e]
theorem parseI_plain (b : List UInt8) (h : b.length ≤ 40) : parseI b = parsed b true false := by
  unfold parseI parsed
  rw [if_neg (by omega)]
  rfl
theorem parsed_w (A : List UInt8) (f m : Bool) (hA : ∀ c ∈ A, isDig c) (hk : A ≠ []) : parsed A f m = (rawI (if m then -rawHalf A [] else rawHalf A []), 0) := by
  unfold parsed
  rw [scan_good_w A f m hA hk]
  simp only [Bool.and_self, if_true]
  rw [number_same A [] m true false _ hA (by simp)]
theorem parsed_p (A B : List UInt8) (f m : Bool) (hA : ∀ c ∈ A, isDig c) (hB : ∀ c ∈ B, isDig c) (hk : A.length + B.length ≠ 0) : parsed (A ++ 46 :: B) f m = (rawI (if m then -rawHalf A B else rawHalf A B), 0) := by
  unfold parsed
  obtain ⟨U, e⟩ := scan_good_p A B f m hA hB
  have hd : (!A.isEmpty || !B.isEmpty) = true := by
    cases A <;> cases B <;> simp_all
  rw [e, hd]
  simp only [Bool.and_self, if_true]
  rw [number_same A B m true true _ hA hB]
theorem parsed_bad {b : List UInt8} {f m : Bool} (h : (scan b f ⟨m, false, false, 0, 0, 100000000000000000⟩).1 = false) : parsed b f m = (0, 120) := by
  unfold parsed
  rw [h]
  simp
theorem parsed_none : parsed [] false true = (0, 120) := by rfl
theorem parsed_dot (f m : Bool) : parsed ([] ++ 46 :: []) f m = (0, 120) := by
  have e : scan ([] ++ 46 :: []) f ⟨m, false, false, 0, 0, 100000000000000000⟩ = (true, ⟨m, false, true, 0, 0, 100000000000000000⟩) := by
    rw [List.nil_append, scan, if_neg (by simp), if_pos ⟨rfl, rfl⟩]
    rfl
  unfold parsed
  rw [e]
  rfl
theorem look_bad (A : List UInt8) (c : UInt8) (r : List UInt8) (hA : ∀ c ∈ A, isDig c) (hc : ¬ isDig c) (h46 : c ≠ 46) : look (A ++ c :: r) 0 (-1) 0 = none := by
  rw [look_digs _ _ _ _ _ hA, look, if_neg (by exact hc), if_neg (fun h => h46 h.1)]
theorem look_twice (A B : List UInt8) (c : UInt8) (r : List UInt8) (hA : ∀ c ∈ A, isDig c) (hB : ∀ c ∈ B, isDig c) (hc : ¬ isDig c) : look (A ++ 46 :: (B ++ c :: r)) 0 (-1) 0 = none := by
  rw [look_digs _ _ _ _ _ hA, look, if_neg (by decide), if_pos ⟨rfl, by omega⟩, look_digs _ _ _ _ _ hB, look, if_neg (by exact hc), if_neg (fun h => by have := h.2; omega)]

theorem refParse_minus (b : List UInt8) (w : World) (hlen : (45 :: b).length ≤ 40) :
    Calls Try.prog 38 #[.string ⟨(45 :: b).toArray⟩] w fun e w' => e = .returned (.tuple #[.int .i32 (parsed b false true).1, .int .i64 (parsed b false true).2]) ∧ Ext w w' := by
  rcases shape b with hA | ⟨A, B, rfl, hA, hB⟩ | ⟨A, c, r, rfl, hA, hc, h46⟩ | ⟨A, B, c, r, rfl, hA, hB, hc⟩
  · by_cases hk : b = []
    · subst hk
      rw [parsed_none]
      exact refParse_bad_m [] w hlen (fun pt cn h => by simp [look] at h; exact h.2.symm)
    · rw [parsed_w b false true hA hk]
      exact refParse_mw b w hA hk hlen
  · by_cases hk : A.length + B.length = 0
    · obtain ⟨rfl, rfl⟩ : A = [] ∧ B = [] := ⟨List.length_eq_zero_iff.1 (by omega), List.length_eq_zero_iff.1 (by omega)⟩
      rw [parsed_dot]
      exact refParse_bad_m _ w hlen (fun pt cn h => by simp [look] at h; exact h.2.symm)
    · rw [parsed_p A B false true hA hB hk]
      exact refParse_mp A B w hA hB hk hlen
  · rw [parsed_bad (scan_bad A c r false true hA hc h46 (.inr (.inl rfl)))]
    exact refParse_bad_m _ w hlen (fun pt cn h => by rw [look_bad A c r hA hc h46] at h; cases h)
  · rw [parsed_bad (scan_twice A B c r false true hA hB hc)]
    exact refParse_bad_m _ w hlen (fun pt cn h => by rw [look_twice A B c r hA hB hc] at h; cases h)

theorem refParse_plain (b : List UInt8) (w : World) (hlen : b.length ≤ 40) (hh : ∃ c0, b[0]? = some c0 ∧ c0 ≠ 45) :
    Calls Try.prog 38 #[.string ⟨b.toArray⟩] w fun e w' => e = .returned (.tuple #[.int .i32 (parsed b true false).1, .int .i64 (parsed b true false).2]) ∧ Ext w w' := by
  rcases shape b with hA | ⟨A, B, rfl, hA, hB⟩ | ⟨A, c, r, rfl, hA, hc, h46⟩ | ⟨A, B, c, r, rfl, hA, hB, hc⟩
  · by_cases hk : b = []
    · subst hk
      obtain ⟨c0, h, _⟩ := hh
      cases h
    · rw [parsed_w b true false hA hk]
      exact refParse_nw b w hA hk hlen
  · by_cases hk : A.length + B.length = 0
    · obtain ⟨rfl, rfl⟩ : A = [] ∧ B = [] := ⟨List.length_eq_zero_iff.1 (by omega), List.length_eq_zero_iff.1 (by omega)⟩
      rw [parsed_dot]
      exact refParse_bad_n _ w hlen hh (fun pt cn h => by simp [look] at h; exact h.2.symm)
    · rw [parsed_p A B true false hA hB hk]
      exact refParse_np A B w hA hB hk hlen
  · have hf : c ≠ 45 ∨ true = false ∨ A ≠ [] := by
      by_cases hA0 : A = []
      · subst hA0
        obtain ⟨c0, h, h45⟩ := hh
        simp at h
        exact .inl (h ▸ h45)
      · exact .inr (.inr hA0)
    rw [parsed_bad (scan_bad A c r true false hA hc h46 hf)]
    exact refParse_bad_n _ w hlen hh (fun pt cn h => by rw [look_bad A c r hA hc h46] at h; cases h)
  · rw [parsed_bad (scan_twice A B c r true false hA hB hc)]
    exact refParse_bad_n _ w hlen hh (fun pt cn h => by rw [look_twice A B c r hA hB hc] at h; cases h)

theorem refParse_any (l : List UInt8) (w : World) :
    Calls Try.prog 38 #[.string ⟨l.toArray⟩] w fun e w' => e = .returned (.tuple #[.int .i32 (parseI l).1, .int .i64 (parseI l).2]) ∧ Ext w w' := by
  by_cases h40 : 40 < l.length
  · have e : parseI l = (0, 3) := by unfold parseI; rw [if_pos h40]
    rw [e]
    exact refParse_long l w h40
  · cases l with
    | nil =>
      have e : parseI [] = (0, 120) := by rfl
      rw [e]
      exact refParse_bad_e w
    | cons c r =>
      by_cases h45 : c = 45
      · subst h45
        rw [parseI_minus r (by omega)]
        exact refParse_minus r w (by omega)
      · rw [parseI_plain (c :: r) (by omega)]
        exact refParse_plain (c :: r) w (by omega) ⟨c, rfl, h45⟩
end Go.Proofs.Ytgoldmohmjjngaa
