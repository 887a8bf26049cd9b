/-
  Texts side by side with a blank between, plain: the tokens of both; lines of them.
-/
import Derived.Test.YtinnikggaflpdaaDoorZI
namespace Go.Proofs.YtinnikggaflpdaaDoor
set_option linter.unusedVariables false
set_option linter.unusedSimpArgs false

theorem lexA_shape (l : Byts8) (p ln : Int) (n : Nat) : lexA l p ln n = (if (lexA l p ln n).2.1 ≠ 0 then ([], (lexA l p ln n).2) else ((lexA l p ln n).1, 0, 0)) := by
  have h := lexA_form l p ln n
  generalize lexA l p ln n = r at *
  obtain ⟨r1, r2, r3⟩ := r
  simp only at h ⊢
  split
  · rename_i h1
    rw [h.2 h1]
  · rename_i h1
    have h1 : r2 = 0 := by simpa using h1
    rw [h1, h.1 h1]
theorem runN_blank {c : UInt8} (hc : isBl c = true) (b : Byts8) : runN isBl (c :: b) = runN isBl b + 1 := by
  rw [runN, if_pos hc]
theorem lexA_blank {c : UInt8} (hc : isBl c = true) (b : Byts8) (p ln : Int) (n : Nat) : lexA (c :: b) p ln n = lexA (b.drop (runN isBl b)) (p + (runN isBl b + 1 : Nat)) (ln + cntL (c :: b.take (runN isBl b))) n := by
  have hp : pieceP (c :: b) = (-1, runN isBl b + 1) := by
    unfold pieceP
    rw [if_pos (by exact hc), runN_blank hc]
  rw [lexA_gap (by simp) hp]
  simp
/-- A text, a blank, a text: the tokens of both. -/
theorem lex_bl {c : UInt8} (hc : isBl c = true) (b : Byts8) (d : Nat) : ∀ (a : Byts8) (p ln : Int) (n : Nat) (ts : List Tok), a.length ≤ d → (c = 10 ∨ ∀ i, pre2 47 47 (a.drop i) = false) → lexA a p ln n = (ts, 0, 0) →
    lexA (a ++ c :: b) p ln n = (if (lexA (c :: b) (p + a.length) (ln + cntL a) (n + ts.length)).2.1 ≠ 0 then ([], (lexA (c :: b) (p + a.length) (ln + cntL a) (n + ts.length)).2)
      else (ts ++ (lexA (c :: b) (p + a.length) (ln + cntL a) (n + ts.length)).1, 0, 0)) := by
  induction d with
  | zero =>
    intro a p ln n ts hd _ h
    obtain rfl : a = [] := List.length_eq_zero_iff.1 (by omega)
    rw [lexA_nil] at h
    injection h with h1
    subst h1
    simpa [cntL, Lib.countByte] using lexA_shape (c :: b) p ln n
  | succ d ih =>
    intro a p ln n ts hd hs h
    by_cases ha : a = []
    · subst ha
      rw [lexA_nil] at h
      injection h with h1
      subst h1
      simpa [cntL, Lib.countByte] using lexA_shape (c :: b) p ln n
    have hr := piece_room a ha
    obtain ⟨k, z, hp⟩ : ∃ k z, pieceP a = (k, z) := ⟨_, _, rfl⟩
    rw [hp] at hr
    simp only at hr
    have hlen : (a.drop z).length ≤ d := by rw [List.length_drop]; omega
    have hs2 : c = 10 ∨ ∀ i, pre2 47 47 ((a.drop z).drop i) = false := hs.imp id (fun h i => by rw [List.drop_drop]; exact h _)
    have htake : (a ++ c :: b).take z = a.take z := List.take_append_of_le_length (by omega)
    have hdrop : (a ++ c :: b).drop z = a.drop z ++ c :: b := List.drop_append_of_le_length (by omega)
    have hcnt : cntL a = cntL (a.take z) + cntL (a.drop z) := by rw [← cntL_add, List.take_append_drop]
    have hpos : p + (z : Int) + ((a.drop z).length : Int) = p + a.length := by rw [List.length_drop]; omega
    by_cases hk : k = -1
    · subst hk
      rw [lexA_gap ha hp] at h
      by_cases hall : begN isBl a = true ∧ z = a.length
      · -- blanks up to the end
        obtain ⟨h1, h2⟩ := hall
        have hrun : runN isBl a = a.length := by
          unfold pieceP at hp
          rw [if_pos h1] at hp
          injection hp with _ h3
          omega
        have hra : ∀ (x : Byts8), runN isBl x = x.length → ∀ y, runN isBl (x ++ y) = x.length + runN isBl y := fun x => by
          induction x with
          | nil => intro _ y; simp
          | cons e x ihx =>
            intro hx y
            rw [runN] at hx
            split at hx
            · rename_i he
              rw [List.cons_append, runN, if_pos he, ihx (by simpa using hx)]
              simp; omega
            · simp at hx
        have hpa : pieceP (a ++ c :: b) = (-1, a.length + (runN isBl b + 1)) := by
          have hb : begN isBl (a ++ c :: b) = true := by
            cases a with
            | nil => exact absurd rfl ha
            | cons e a => exact h1
          unfold pieceP
          rw [if_pos hb, hra a hrun, runN_blank hc]
        have h0 : a.drop z = [] := List.drop_eq_nil_of_le (by omega)
        rw [h0, lexA_nil] at h
        injection h with h3
        subst h3
        rw [lexA_gap (by simp) hpa]
        have e1 : (a ++ c :: b).drop (a.length + (runN isBl b + 1)) = b.drop (runN isBl b) := by
          rw [List.drop_append, List.drop_eq_nil_of_le (by omega)]
          simp
        have e2 : (a ++ c :: b).take (a.length + (runN isBl b + 1)) = a ++ c :: b.take (runN isBl b) := by
          rw [List.take_append, List.take_of_length_le (by omega)]
          simp
        rw [e1, e2, cntL_add]
        have e3 := lexA_blank hc b (p + a.length) (ln + cntL a) n
        have e4 : lexA (b.drop (runN isBl b)) (p + (a.length + (runN isBl b + 1) : Nat)) (ln + (cntL a + cntL (c :: b.take (runN isBl b)) : Nat)) n = lexA (c :: b) (p + a.length) (ln + cntL a) n := by
          rw [e3]
          congr 1 <;> (push_cast; omega)
        rw [e4]
        simpa using lexA_shape (c :: b) (p + a.length) (ln + cntL a) n
      · have hpa : pieceP (a ++ c :: b) = (-1, z) := by
          by_cases hz : z < a.length
          · have := gap_loc ha hp hz (Nat.le_refl _) (c :: b)
            rwa [List.take_length] at this
          · have hz2 : z = a.length := by omega
            rcases gap_cases hp with ⟨h1, h2⟩ | ⟨h1, h2, h3⟩ | ⟨h1, h2, h3, h4, h5⟩
            · exact absurd ⟨h1, hz2⟩ hall
            · rcases hs with hs | hs
              · subst hs
                have hra : ∀ (x : Byts8), runN isLn x = x.length → runN isLn (x ++ 10 :: b) = x.length := fun x => by
                  induction x with
                  | nil => intro _; rfl
                  | cons e x ihx =>
                    intro hx
                    rw [runN] at hx
                    split at hx
                    · rename_i he
                      rw [List.cons_append, runN, if_pos he, ihx (by simpa using hx)]
                      simp
                    · simp at hx
                have h2l := pre2_len h2
                have e1 := begN_app (p := isBl) (l := a) (m := a.length) (by omega) ha (10 :: b)
                have e2 := pre2_app (u := 47) (v := 47) (l := a) (m := a.length) h2l h2l (10 :: b)
                rw [List.take_length] at e1 e2
                unfold pieceP
                rw [e1, if_neg (by rw [h1]; simp), e2, if_pos h2, hra a (by omega), hz2]
              · have := hs 0
                rw [List.drop_zero, h2] at this
                cases this
            · have := star_loc h1 h2 h3 h4 h5 (m := a.length) (by omega) (c :: b)
              rwa [List.take_length] at this
        rw [lexA_gap (by simp) hpa, htake, hdrop, ih _ _ _ _ _ hlen hs2 h, hpos]
        have e : ln + (cntL (a.take z) : Int) + (cntL (a.drop z) : Int) = ln + cntL a := by rw [hcnt]; push_cast; omega
        rw [e]
    · have ht : (tellP k (a.take z) (a.drop z) n).2 = 0 := by
        by_cases ht : (tellP k (a.take z) (a.drop z) n).2 = 0
        · exact ht
        · rw [lexA_bad ha hp hk p ln n ht] at h
          exact congrArg (fun r : List Tok × Int × Int => r.2.1) h
      have hk2 := tell_kind ht
      have hn : Nice (a.drop z) (a.drop z ++ c :: b) := by
        cases hy : a.drop z with
        | nil => exact nice_blank (Or.inl hc)
        | cons e y => exact nice_same rfl
      obtain ⟨e0, x, hx⟩ : ∃ e0 x, a.take z = e0 :: x := by
        cases hq : a.take z with
        | nil =>
          have h1 := congrArg List.length hq
          rw [List.length_take, List.length_nil] at h1
          omega
        | cons e0 x => exact ⟨e0, x, rfl⟩
      have hzl : (e0 :: x).length = z := by rw [← hx, List.length_take]; omega
      have hpa : pieceP (a ++ c :: b) = (k, z) := by
        have h1 : pieceP (e0 :: x ++ a.drop z) = (k, (e0 :: x).length) := by rw [← hx, List.take_append_drop, hp, hx, hzl]
        have h2 := tok_loc hn h1 hk hk2
        rw [← hx, ← List.append_assoc, List.take_append_drop, hx, hzl] at h2
        exact h2
      rw [lexA_tok ha hp hk p ln n ht] at h
      split at h
      · rename_i h1
        rw [h] at h1
        exact absurd rfl h1
      · rename_i h1
        have h1 : (lexA (a.drop z) (p + z) (ln + cntL (a.take z)) (n + 1)).2.1 = 0 := by simpa using h1
        obtain ⟨us, hus⟩ : ∃ us, us = (lexA (a.drop z) (p + z) (ln + cntL (a.take z)) (n + 1)).1 := ⟨_, rfl⟩
        have hl2 : lexA (a.drop z) (p + z) (ln + cntL (a.take z)) (n + 1) = (us, 0, 0) := by
          rw [lexA_shape, if_neg (by rw [h1]; simp), hus]
        rw [← hus] at h
        injection h with h _
        have ht2 : (tellP k ((a ++ c :: b).take z) ((a ++ c :: b).drop z) n) = tellP k (a.take z) (a.drop z) n := by
          rw [htake, hdrop]
          exact tell_nice hn ht
        rw [lexA_tok (by simp) hpa hk p ln n (by rw [ht2]; exact ht), ht2, htake, hdrop, ih _ _ _ _ _ hlen hs2 hl2, hpos]
        have e : ln + (cntL (a.take z) : Int) + (cntL (a.drop z) : Int) = ln + cntL a := by rw [hcnt]; push_cast; omega
        have e2 : n + 1 + us.length = n + ts.length := by rw [← h]; simp; omega
        rw [e, e2, ← h]
        generalize lexA (c :: b) (p + a.length) (ln + cntL a) (n + _) = r
        obtain ⟨r1, r2, r3⟩ := r
        by_cases hq : r2 = 0 <;> simp [hq]

/-- A blank ahead. -/
theorem lexA_one {c : UInt8} (hc : isBl c = true) (b : Byts8) (p ln : Int) (n : Nat) : lexA (c :: b) p ln n = lexA b (p + 1) (ln + cntL [c]) n := by
  rw [lexA_blank hc]
  by_cases hb : begN isBl b = true
  · have hp : pieceP b = (-1, runN isBl b) := by
      unfold pieceP
      rw [if_pos hb]
    have hne : b ≠ [] := fun e => by subst e; cases hb
    rw [lexA_gap hne hp]
    have h1 : cntL (c :: b.take (runN isBl b)) = cntL [c] + cntL (b.take (runN isBl b)) := cntL_add [c] _
    rw [h1]
    congr 1 <;> (push_cast; omega)
  · have h0 : runN isBl b = 0 := runN_none (by simpa using hb)
    rw [h0]
    simp
theorem tell_ahead2 {k : Int} {t y : Byts8} {n : Nat} (h : (tellP k t y n).2 = 0) : n ≠ 2048 ∧ ∀ m, m ≠ 2048 → tellP k t y m = tellP k t y n := by
  have h1 : ¬ (decide (k = -2) || spoilt k t y) = true := fun e => by
    unfold tellP at h
    rw [if_pos e] at h
    cases h
  have h2 : n ≠ 2048 := fun e => by
    unfold tellP at h
    rw [if_neg h1, if_pos e] at h
    cases h
  refine ⟨h2, fun m hm => ?_⟩
  unfold tellP
  rw [if_neg h1, if_neg h1, if_neg h2, if_neg hm]
/-- Tokens elsewhere. -/
def mvT (dp dl : Int) (t : Tok) : Tok := ⟨t.kind, t.text, t.num, t.place + dp, t.line + dl⟩
/-- The same text at another place, on another line, behind other tokens. -/
theorem lexA_move (d : Nat) : ∀ (l : Byts8) (a ln : Int) (n : Nat) (ts : List Tok), l.length ≤ d → lexA l a ln n = (ts, 0, 0) → ∀ (dp dl : Int) (m : Nat), m + ts.length ≤ 2048 → lexA l (a + dp) (ln + dl) m = (ts.map (mvT dp dl), 0, 0) := by
  induction d with
  | zero =>
    intro l a ln n ts hd h dp dl m _
    obtain rfl : l = [] := List.length_eq_zero_iff.1 (by omega)
    rw [lexA_nil] at h ⊢
    injection h with h1
    subst h1
    rfl
  | succ d ih =>
    intro l a ln n ts hd h dp dl m hm
    by_cases hl : l = []
    · subst hl
      rw [lexA_nil] at h ⊢
      injection h with h1
      subst h1
      rfl
    have hr := piece_room l hl
    obtain ⟨k, z, hp⟩ : ∃ k z, pieceP l = (k, z) := ⟨_, _, rfl⟩
    rw [hp] at hr
    simp only at hr
    have hlen : (l.drop z).length ≤ d := by rw [List.length_drop]; omega
    have q1 : a + dp + (z : Int) = a + z + dp := by omega
    have q2 : ln + dl + (cntL (l.take z) : Int) = ln + cntL (l.take z) + dl := by omega
    by_cases hk : k = -1
    · subst hk
      rw [lexA_gap hl hp] at h ⊢
      rw [q1, q2]
      exact ih _ _ _ _ _ hlen h dp dl m hm
    · have ht : (tellP k (l.take z) (l.drop z) n).2 = 0 := by
        by_cases ht : (tellP k (l.take z) (l.drop z) n).2 = 0
        · exact ht
        · rw [lexA_bad hl hp hk a ln n ht] at h
          exact congrArg (fun r : List Tok × Int × Int => r.2.1) h
      rw [lexA_tok hl hp hk a ln n ht] at h
      split at h
      · rename_i h1
        rw [h] at h1
        exact absurd rfl h1
      · rename_i h1
        have h1 : (lexA (l.drop z) (a + z) (ln + cntL (l.take z)) (n + 1)).2.1 = 0 := by simpa using h1
        obtain ⟨us, hus⟩ : ∃ us, us = (lexA (l.drop z) (a + z) (ln + cntL (l.take z)) (n + 1)).1 := ⟨_, rfl⟩
        have hl2 : lexA (l.drop z) (a + z) (ln + cntL (l.take z)) (n + 1) = (us, 0, 0) := by
          rw [lexA_shape, if_neg (by rw [h1]; simp), hus]
        rw [← hus] at h
        injection h with h _
        have hml : m + 1 + us.length ≤ 2048 := by rw [← h] at hm; simp at hm; omega
        have htm := (tell_ahead2 ht).2 m (by omega)
        rw [lexA_tok hl hp hk _ _ m (by rw [htm]; exact ht), q1, q2, ih _ _ _ _ _ hlen hl2 dp dl (m + 1) hml, htm, ← h]
        simp [mvT]
/-- On which lines. -/
theorem lines_in (d : Nat) : ∀ (l : Byts8) (a ln : Int) (n : Nat) (ts : List Tok), l.length ≤ d → lexA l a ln n = (ts, 0, 0) → ∀ t ∈ ts, ln ≤ t.line ∧ t.line ≤ ln + cntL l := by
  induction d with
  | zero =>
    intro l a ln n ts hd h
    obtain rfl : l = [] := List.length_eq_zero_iff.1 (by omega)
    rw [lexA_nil] at h
    injection h with h1
    subst h1
    intro t ht
    cases ht
  | succ d ih =>
    intro l a ln n ts hd h
    by_cases hl : l = []
    · subst hl
      rw [lexA_nil] at h
      injection h with h1
      subst h1
      intro t ht
      cases ht
    have hr := piece_room l hl
    obtain ⟨k, z, hp⟩ : ∃ k z, pieceP l = (k, z) := ⟨_, _, rfl⟩
    rw [hp] at hr
    simp only at hr
    have hlen : (l.drop z).length ≤ d := by rw [List.length_drop]; omega
    have hcnt : cntL l = cntL (l.take z) + cntL (l.drop z) := by rw [← cntL_add, List.take_append_drop]
    by_cases hk : k = -1
    · subst hk
      rw [lexA_gap hl hp] at h
      intro t ht
      have := ih _ _ _ _ _ hlen h t ht
      omega
    · have ht : (tellP k (l.take z) (l.drop z) n).2 = 0 := by
        by_cases ht : (tellP k (l.take z) (l.drop z) n).2 = 0
        · exact ht
        · rw [lexA_bad hl hp hk a ln n ht] at h
          exact congrArg (fun r : List Tok × Int × Int => r.2.1) h
      rw [lexA_tok hl hp hk a ln n ht] at h
      split at h
      · rename_i h1
        rw [h] at h1
        exact absurd rfl h1
      · rename_i h1
        have h1 : (lexA (l.drop z) (a + z) (ln + cntL (l.take z)) (n + 1)).2.1 = 0 := by simpa using h1
        obtain ⟨us, hus⟩ : ∃ us, us = (lexA (l.drop z) (a + z) (ln + cntL (l.take z)) (n + 1)).1 := ⟨_, rfl⟩
        have hl2 : lexA (l.drop z) (a + z) (ln + cntL (l.take z)) (n + 1) = (us, 0, 0) := by
          rw [lexA_shape, if_neg (by rw [h1]; simp), hus]
        rw [← hus] at h
        injection h with h _
        intro t htm
        rw [← h] at htm
        simp only [List.mem_cons] at htm
        rcases htm with rfl | htm
        · exact ⟨by simp, by simp; omega⟩
        · have := ih _ _ _ _ _ hlen hl2 t htm
          omega
theorem lines_head (u : Tok) (us : List Tok) : ∃ r rs, linesP (u :: us) = (u :: r) :: rs := by
  rw [linesP_cons]
  cases linesP us with
  | nil => exact ⟨[], [], rfl⟩
  | cons r rs =>
    by_cases h : u.line = (hd0 r).line
    · exact ⟨r, rs, linesC_pos _ h⟩
    · exact ⟨[], r :: rs, linesC_neg _ h⟩
/-- Lines of tokens side by side. -/
theorem lines_app : ∀ (ts us : List Tok), (∀ t ∈ ts, ∀ u ∈ us, t.line ≠ u.line) → linesP (ts ++ us) = linesP ts ++ linesP us
  | [], us, _ => rfl
  | t :: ts, us, h => by
    have ih := lines_app ts us (fun x hx => h x (by simp [hx]))
    rw [List.cons_append, linesP_cons, ih, linesP_cons]
    cases ts with
    | nil =>
      cases us with
      | nil => rfl
      | cons u us =>
        obtain ⟨r, rs, e⟩ := lines_head u us
        rw [e]
        exact linesC_neg _ (h t (by simp) u (by simp))
    | cons t2 ts =>
      obtain ⟨r, rs, e⟩ := lines_head t2 ts
      rw [e, List.cons_append]
      by_cases hq : t.line = (hd0 (t2 :: r)).line
      · rw [linesC_pos _ hq, linesC_pos _ hq]; rfl
      · rw [linesC_neg _ hq, linesC_neg _ hq]; rfl
theorem lines_one (n : Int) : ∀ (ts : List Tok), ts ≠ [] → (∀ t ∈ ts, t.line = n) → linesP ts = [ts]
  | [], h, _ => absurd rfl h
  | [t], _, _ => rfl
  | t :: u :: ts, _, h => by
    have ih := lines_one n (u :: ts) (by simp) (fun x hx => h x (by simp only [List.mem_cons] at hx ⊢; exact Or.inr hx))
    rw [linesP_cons, ih]
    exact linesC_pos _ ((h t (by simp)).trans (h u (by simp)).symm)
end Go.Proofs.YtinnikggaflpdaaDoor
