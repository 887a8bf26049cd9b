/-
  Texts and their tokens, plain: a token does not ask what stands far behind it; where tokens stand is no matter for them.
-/
import Derived.Test.YtdcamcpffiilbaaDoorXP
namespace Go.Proofs.YtdcamcpffiilbaaDoor
set_option linter.unusedVariables false
set_option linter.unusedSimpArgs false

theorem runN_app_lt {p : UInt8 → Bool} : ∀ {x y : Byts8} (y' : Byts8), runN p (x ++ y) < x.length → runN p (x ++ y') = runN p (x ++ y)
  | [], y, y', h => by simp at h
  | c :: x, y, y', h => by
    rw [List.cons_append, runN_cons] at h
    rw [List.cons_append, List.cons_append, runN_cons, runN_cons]
    split at h
    · rename_i hc
      rw [if_pos hc, if_pos hc, runN_app_lt (x := x) (y := y) y' (by simpa using h)]
    · rename_i hc
      rw [if_neg hc, if_neg hc]
theorem runN_none {p : UInt8 → Bool} {y : Byts8} (h : begN p y = false) : runN p y = 0 := by
  cases y with
  | nil => rfl
  | cons b y => rw [runN_cons, if_neg (by rw [show p b = false from h]; simp)]
theorem runN_app_full {p : UInt8 → Bool} : ∀ {x y y' : Byts8}, runN p (x ++ y) = x.length → begN p y' = false → runN p (x ++ y') = x.length
  | [], y, y', h, hy => by simpa using runN_none hy
  | c :: x, y, y', h, hy => by
    rw [List.cons_append, runN_cons] at h
    rw [List.cons_append, runN_cons]
    split at h
    · rename_i hc
      rw [if_pos hc, runN_app_full (x := x) (y := y) (by simpa using h) hy]
      rfl
    · simp at h
theorem runN_full_beg {p : UInt8 → Bool} : ∀ {x y : Byts8}, runN p (x ++ y) = x.length → begN p y = false
  | [], y, h => by
    cases y with
    | nil => rfl
    | cons b y =>
      rw [List.nil_append, runN_cons] at h
      split at h
      · simp at h
      · rename_i hc; simpa [begN] using hc
  | c :: x, y, h => by
    rw [List.cons_append, runN_cons] at h
    split at h
    · exact runN_full_beg (x := x) (by simpa using h)
    · simp at h
theorem runN_all {p : UInt8 → Bool} : ∀ {x y : Byts8}, (∀ b ∈ x, p b = true) → runN p (x ++ y) = x.length + runN p y
  | [], y, _ => by simp
  | c :: x, y, h => by
    rw [List.cons_append, runN_cons, if_pos (h c (by simp)), runN_all (fun b hb => h b (by simp [hb]))]
    simp only [List.length_cons]
    omega

/-- What y does not begin with, y' does not begin with, as long as that is no blank. -/
def Nice (y y' : Byts8) : Prop := ∀ p : UInt8 → Bool, (∀ b, isBl b = true → p b = false) → begN p y = false → begN p y' = false
theorem nice_same {y y' : Byts8} (h : y'.head? = y.head?) : Nice y y' := by
  intro p _ hp
  cases y' with
  | nil => rfl
  | cons b r =>
    cases y with
    | nil => simp at h
    | cons c r' =>
      simp at h
      subst h
      exact hp
theorem nice_blank {y y' : Byts8} (h : begN isBl y' = true ∨ y' = []) : Nice y y' := by
  intro p hb _
  rcases h with h | rfl
  · cases y' with
    | nil => rfl
    | cons b r => exact hb b h
  · rfl
theorem bl_dg (b : UInt8) (h : isBl b = true) : isDg b = false := by
  simp only [isBl, Bool.or_eq_true, Bool.and_eq_true, decide_eq_true_eq] at h
  simp only [isDg, Bool.and_eq_false_iff, decide_eq_false_iff_not]
  omega
theorem bl_lt (b : UInt8) (h : isBl b = true) : isLt b = false := by
  simp only [isBl, Bool.or_eq_true, Bool.and_eq_true, decide_eq_true_eq] at h
  simp only [isLt, Bool.or_eq_false_iff, Bool.and_eq_false_iff, decide_eq_false_iff_not]
  omega
theorem bl_wd (b : UInt8) (h : isBl b = true) : isWd b = false := by
  unfold isWd
  rw [bl_dg b h, bl_lt b h]
  rfl
theorem bl_pt (b : UInt8) (h : isBl b = true) : isPt b = false := by
  simp only [isBl, Bool.or_eq_true, Bool.and_eq_true, decide_eq_true_eq] at h
  simp only [isPt, decide_eq_false_iff_not]
  omega
theorem bl_eq (c b : UInt8) (hc : isBl c = false) (h : isBl b = true) : (c == b) = false := by
  rw [beq_eq_false_iff_ne]
  intro e
  subst e
  rw [hc] at h
  cases h

theorem pre2_nice {u v c : UInt8} {x y y' : Byts8} (hv : isBl v = false) (hn : Nice y y') (h : pre2 u v (c :: x ++ y) = false) : pre2 u v (c :: x ++ y') = false := by
  cases x with
  | cons d x =>
    simp only [List.cons_append, pre2_cons] at h ⊢
    exact h
  | nil =>
    have e : ∀ r : Byts8, pre2 u v (c :: r) = ((u == c) && begN (fun b => v == b) r) := fun r => by
      cases r with
      | nil => rw [pre2_one]; simp [begN]
      | cons b r => rw [pre2_cons]; rfl
    simp only [List.cons_append, List.nil_append] at h ⊢
    rw [e] at h ⊢
    by_cases hc : (u == c) = true
    · rw [hc, Bool.true_and] at h ⊢
      exact hn _ (fun b hb => bl_eq v b hv hb) h
    · rw [show (u == c) = false by simpa using hc]
      rfl
theorem two_nice {c : UInt8} {x y y' : Byts8} (hn : Nice y y') (h : isTwo (c :: x ++ y) = false) : isTwo (c :: x ++ y') = false := by
  cases x with
  | cons d x => exact h
  | nil =>
    have hcons : ∀ (r : Byts8), isTwo (c :: r) = begN (fun b => twos.contains [c, b]) r := fun r => by
      cases r with
      | nil =>
        unfold isTwo
        show twos.contains [c] = false
        rw [List.contains_eq_any_beq]
        simp [twos]
      | cons b r => rfl
    simp only [List.cons_append, List.nil_append] at h ⊢
    rw [hcons] at h ⊢
    refine hn _ (fun b hb => ?_) h
    have h0 : ∀ t ∈ twos, ∀ b' , t.getLast? = some b' → isBl b' = false := by decide
    by_cases hc : twos.contains [c, b] = true
    · have := h0 [c, b] (by simpa using hc) b rfl
      rw [this] at hb
      cases hb
    · simpa using hc

theorem num_nice {x y y' : Byts8} {k : Int} (hn : Nice y y') (h : numP (x ++ y) = (k, x.length)) : numP (x ++ y') = (k, x.length) := by
  unfold numP at h ⊢
  have hle : runN isDg (x ++ y) ≤ x.length := by
    by_cases hb : begN isPt ((x ++ y).drop (runN isDg (x ++ y))) = true
    · rw [if_pos hb] at h
      have := (Prod.mk.inj h).2
      omega
    · rw [if_neg hb] at h
      have := (Prod.mk.inj h).2
      omega
  by_cases hlt : runN isDg (x ++ y) < x.length
  · have e1 := runN_app_lt (x := x) (y := y) y' hlt
    rw [e1]
    generalize runN isDg (x ++ y) = d at *
    have hdx : ∀ r : Byts8, begN isPt ((x ++ r).drop d) = begN isPt (x.drop d) := fun r => by
      rw [List.drop_append_of_le_length (by omega)]
      have : x.drop d ≠ [] := by
        intro e
        have := congrArg List.length e
        rw [List.length_drop, List.length_nil] at this
        omega
      cases hx : x.drop d with
      | nil => exact absurd hx this
      | cons b r => rfl
    rw [hdx] at h ⊢
    by_cases hb : begN isPt (x.drop d) = true
    · rw [if_pos hb] at h ⊢
      have hz := (Prod.mk.inj h).2
      have hk := (Prod.mk.inj h).1
      rw [List.drop_append_of_le_length (by omega)] at hz ⊢
      have hfull : runN isDg (x.drop (d + 1) ++ y) = (x.drop (d + 1)).length := by rw [List.length_drop]; omega
      rw [runN_app_full hfull (hn _ bl_dg (runN_full_beg hfull)), ← hk, List.length_drop]
      congr 1
      omega
    · rw [if_neg hb] at h
      have := (Prod.mk.inj h).2
      omega
  · have hfull : runN isDg (x ++ y) = x.length := by omega
    have hyf := hn _ bl_dg (runN_full_beg hfull)
    rw [runN_app_full hfull hyf]
    rw [hfull] at h
    rw [List.drop_left] at h ⊢
    by_cases hb : begN isPt y = true
    · rw [if_pos hb] at h
      have := (Prod.mk.inj h).2
      omega
    · rw [if_neg hb] at h
      rw [if_neg (by rw [hn _ bl_pt (by simpa using hb)]; simp)]
      exact h

/-- A token's begin is told alike whatever stands far behind it. -/
theorem tok_loc {c : UInt8} {x y y' : Byts8} {k : Int} (hn : Nice y y') (h : pieceP (c :: x ++ y) = (k, (c :: x).length)) (h1 : k ≠ -1) (h2 : k ≠ -2) : pieceP (c :: x ++ y') = (k, (c :: x).length) := by
  unfold pieceP at h ⊢
  have b1 : begN isBl (c :: x ++ y') = begN isBl (c :: x ++ y) := rfl
  rw [b1]
  by_cases c1 : begN isBl (c :: x ++ y) = true
  · rw [if_pos c1] at h
    exact absurd (Prod.mk.inj h).1.symm h1
  rw [if_neg c1] at h ⊢
  by_cases c2 : pre2 47 47 (c :: x ++ y) = true
  · rw [if_pos c2] at h
    exact absurd (Prod.mk.inj h).1.symm h1
  rw [if_neg c2] at h
  rw [if_neg (by rw [pre2_nice (by decide) hn (by simpa using c2)]; simp)]
  by_cases c3 : pre2 47 42 (c :: x ++ y) = true
  · rw [if_pos c3] at h
    exfalso
    unfold comP at h
    split at h
    · exact h2 (Prod.mk.inj h).1.symm
    · exact h1 (Prod.mk.inj h).1.symm
  rw [if_neg c3] at h
  rw [if_neg (by rw [pre2_nice (by decide) hn (by simpa using c3)]; simp)]
  have b4 : begN isLt (c :: x ++ y') = begN isLt (c :: x ++ y) := rfl
  rw [b4]
  by_cases c4 : begN isLt (c :: x ++ y) = true
  · rw [if_pos c4] at h ⊢
    have hz := (Prod.mk.inj h).2
    have hk := (Prod.mk.inj h).1
    rw [runN_app_full hz (hn _ bl_wd (runN_full_beg hz)), ← hk]
  rw [if_neg c4] at h ⊢
  have b5 : begN isDg (c :: x ++ y') = begN isDg (c :: x ++ y) := rfl
  have b6 : begN isPt (c :: x ++ y') = begN isPt (c :: x ++ y) := rfl
  have hd : ∀ r : Byts8, (c :: x ++ r).drop 1 = x ++ r := fun _ => rfl
  rw [b5, b6, hd]
  rw [hd] at h
  by_cases c5 : (begN isDg (c :: x ++ y) || (begN isPt (c :: x ++ y) && begN isDg (x ++ y))) = true
  · rw [if_pos c5] at h
    rw [if_pos, num_nice hn h]
    rcases (Bool.or_eq_true _ _).mp c5 with c6 | c6
    · rw [c6]; rfl
    · obtain ⟨c7, c8⟩ := (Bool.and_eq_true _ _).mp c6
      cases x with
      | cons d x =>
        rw [show begN isDg (d :: x ++ y') = begN isDg (d :: x ++ y) from rfl]
        exact c5
      | nil =>
        exfalso
        have hpt : isPt c = true := c7
        have hnd : isDg c = false := by
          simp only [isPt, decide_eq_true_eq] at hpt
          simp only [isDg, Bool.and_eq_false_iff, decide_eq_false_iff_not]
          omega
        have hz := (Prod.mk.inj h).2
        have e0 : runN isDg (c :: y) = 0 := by rw [runN_cons, if_neg (by rw [hnd]; simp)]
        have e1 : (numP (c :: y)).2 = 0 + 1 + runN isDg y := by
          unfold numP
          rw [e0, List.drop_zero, if_pos (show begN isPt (c :: y) = true from hpt)]
          rfl
        have e2 : (numP (c :: y)).2 = 1 := congrArg Prod.snd h
        have := runN_pos c8
        simp only [List.nil_append] at this
        omega
  · rw [if_neg c5] at h
    have c5f : begN isDg (c :: x ++ y) = false ∧ (begN isPt (c :: x ++ y) = true → begN isDg (x ++ y) = false) := by
      have := c5
      simp only [Bool.or_eq_true, Bool.and_eq_true, not_or, not_and, Bool.not_eq_true] at this
      exact ⟨this.1, this.2⟩
    rw [if_neg]
    · unfold signP at h ⊢
      by_cases c6 : isTwo (c :: x ++ y) = true
      · rw [if_pos c6] at h
        cases x with
        | cons d x =>
          rw [if_pos (show isTwo (c :: d :: x ++ y') = true from c6)]
          exact h
        | nil =>
          have := (Prod.mk.inj h).2
          simp at this
      · rw [if_neg c6] at h
        rw [if_neg (by rw [two_nice hn (by simpa using c6)]; simp)]
        exact h
    · intro hcon
      rcases (Bool.or_eq_true _ _).mp hcon with c6 | c6
      · rw [c5f.1] at c6; cases c6
      · obtain ⟨c7, c8⟩ := (Bool.and_eq_true _ _).mp c6
        have c9 := c5f.2 c7
        cases x with
        | cons d x => rw [show begN isDg (d :: x ++ y') = begN isDg (d :: x ++ y) from rfl, c9] at c8; cases c8
        | nil =>
          simp only [List.nil_append] at c8 c9
          rw [hn _ bl_dg c9] at c8
          cases c8
end Go.Proofs.YtdcamcpffiilbaaDoor
