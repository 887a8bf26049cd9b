/- Several texts in one. -/
import Derived.Test.YtdcamcpffiilbaaDoorZZ
import Derived.Test.YtdcamcpffiilbaaDoorXB
import Derived.Test.YtdcamcpffiilbaaDoorXR
import Derived.Lib.IndexMore
import Derived.Deep.QuietTactic
import Derived.BigQuiet
/-
  A text that says nothing here is told as lex tells it: plain.
-/
namespace Go.Proofs.YtdcamcpffiilbaaDoor
set_option linter.unusedVariables false
set_option linter.unusedSimpArgs false

/-- A token that says nothing here. -/
def plainT (t : Tok) : Bool := !(t.text == [35]) && !(t.text == wGles) && !(t.text == wLine) && !(t.text == wVers)
/-- Words that stand for something at first, and no others. -/
def EnvFirst (E : Env) : Prop := ∀ k, k ≠ wGles → k ≠ wLine → k ≠ wVers → E k = none
theorem begin_first : EnvFirst beginE := fun k h1 h2 h3 => by
  unfold beginE setE
  rw [if_neg h3, if_neg h1]
theorem EnvFirst.line {E : Env} (h : EnvFirst E) (v : Option (List Tok)) : EnvFirst (setE E wLine v) := fun k h1 h2 h3 => by
  unfold setE
  rw [if_neg h2]
  exact h k h1 h2 h3
theorem plainT_parts {t : Tok} (h : plainT t = true) : t.text ≠ [35] ∧ t.text ≠ wGles ∧ t.text ≠ wLine ∧ t.text ≠ wVers := by
  unfold plainT at h
  simpa [and_assoc] using h
theorem exp_stay0 {E : Env} {t : Tok} (h : E t.text = none) (f : Nat) : expT E t.place t.line f [] t 0 = some ([t], 0) := by
  have h2 : (([] : List Byts8).contains t.text || (E t.text).isNone) = true := by rw [h]; rfl
  cases f with
  | zero => unfold expT; rw [if_pos h2]
  | succ f => unfold expT; rw [if_pos h2]
theorem told_plain {E : Env} (hE : EnvFirst E) {t : Tok} (ht : plainT t = true) (tl : List Tok) (hl : tl.length + 1 ≤ 2048) : toldP E tl t = some (tl ++ [t]) := by
  obtain ⟨_, h1, h2, h3⟩ := plainT_parts ht
  unfold toldP
  rw [exp_stay0 (hE _ h1 h2 h3)]
  simp only [List.length_cons, List.length_nil]
  rw [if_pos (by omega)]
theorem line_plain {E : Env} (hE : EnvFirst E) : ∀ (l tl : List Tok), (∀ t ∈ l, plainT t = true) → tl.length + l.length ≤ 2048 → lineP E tl l = (tl ++ l, 0, 0)
  | [], tl, _, _ => by rw [List.append_nil]; rfl
  | t :: l, tl, h, hl => by
    simp only [List.length_cons] at hl
    rw [lineP, told_plain hE (h t (by simp)) tl (by omega)]
    simp only
    rw [line_plain hE l (tl ++ [t]) (fun u hu => h u (by simp [hu])) (by simp; omega)]
    simp
theorem read_plain : ∀ (ls : List (List Tok)) (first : Bool) (E : Env) (tl : List Tok), EnvFirst E → (∀ l ∈ ls, l ≠ [] ∧ ∀ t ∈ l, plainT t = true) → tl.length + ls.flatten.length ≤ 2048 → readP first E [] tl ls = ((tl ++ ls.flatten, []), 0, 0)
  | [], _, _, tl, _, _, _ => by simp [readP]
  | l :: ls, first, E, tl, hE, h, hl => by
    simp only [List.flatten_cons, List.length_append] at hl
    obtain ⟨hne, hp⟩ := h l (by simp)
    have h35 : ¬ (hd0 l).text = [35] := by
      cases l with
      | nil => exact absurd rfl hne
      | cons t r => exact (plainT_parts (hp t (by simp))).1
    rw [readP, if_neg h35, if_neg (by decide), line_plain (hE.line _) l tl hp (by omega)]
    simp only
    rw [if_neg (by simp), read_plain ls false _ (tl ++ l) (hE.line _) (fun x hx => h x (by simp [hx])) (by rw [List.length_append]; omega)]
    simp
theorem lines_flat : ∀ X, (linesP X).flatten = X
  | [] => rfl
  | t :: X => by
    have ih := lines_flat X
    rw [linesP_cons]
    cases h : linesP X with
    | nil =>
      rw [h] at ih
      simp at ih
      subst ih
      rfl
    | cons r rs =>
      rw [h] at ih
      by_cases hu : t.line = (hd0 r).line
      · rw [linesC_pos _ hu]
        simp at ih ⊢
        exact ih
      · rw [linesC_neg _ hu]
        simp at ih ⊢
        exact ih
theorem tell_2048 (k : Int) (t b : Byts8) : (tellP k t b 2048).2 ≠ 0 := by
  unfold tellP
  split
  · decide
  · rw [if_pos rfl]; decide
theorem lexA_count (l : Byts8) : ∀ (a ln : Int) (n : Nat), n ≤ 2048 → (lexA l a ln n).2.1 = 0 → n + (lexA l a ln n).1.length ≤ 2048 := by
  induction hn : l.length using Nat.strongRecOn generalizing l with
  | _ m ih =>
    intro a ln n hle h0
    by_cases h : l = []
    · subst h
      rw [lexA_nil]
      simpa using hle
    have hr := piece_room l h
    obtain ⟨k, z, hp⟩ : ∃ k z, pieceP l = (k, z) := ⟨_, _, rfl⟩
    rw [hp] at hr
    simp only at hr
    have hd : (l.drop z).length < m := by rw [List.length_drop]; omega
    by_cases hk : k = -1
    · subst hk
      rw [lexA_gap h hp] at h0 ⊢
      exact ih _ hd _ rfl _ _ _ hle h0
    · by_cases ht : (tellP k (l.take z) (l.drop z) n).2 = 0
      · have hn2 : n ≠ 2048 := fun e => by rw [e] at ht; exact tell_2048 _ _ _ ht
        rw [lexA_tok h hp hk a ln n ht] at h0 ⊢
        split at h0
        · rename_i h1
          exact absurd h0 h1
        · rename_i h1
          rw [if_neg h1]
          have := ih _ hd _ rfl (a + z) (ln + cntL (l.take z)) (n + 1) (by omega) (by simpa using h1)
          simp only [List.length_cons]
          omega
      · rw [lexA_bad h hp hk a ln n ht] at h0
        exact absurd h0 ht
/-- A text that says nothing here is told as lex tells it. -/
theorem run_plain (s : Byts8) (h0 : (lexP s).2.1 = 0) (hp : ∀ t ∈ (lexP s).1, plainT t = true) : runP s = lexP s := by
  have hsm : lexP s = lexA s 0 0 0 := by
    unfold lexP at h0 ⊢
    split at h0
    · cases h0
    · rename_i h
      rw [if_neg h]
  have hc : (lexP s).1.length ≤ 2048 := by
    rw [hsm] at h0 ⊢
    have := lexA_count s 0 0 0 (by omega) h0
    omega
  have hf : (lexP s).2.2 = 0 := by
    rw [hsm] at h0 ⊢
    exact (lexA_form s 0 0 0).1 h0
  have hok := (lines_ok (lexP s).1 (by omega) (lexP_ok s).2).1
  have hr : readP true beginE [] [] (linesP (lexP s).1) = (((lexP s).1, []), 0, 0) := by
    have := read_plain (linesP (lexP s).1) true beginE [] begin_first (fun l hl => ⟨(hok l hl).1, fun t ht => hp t ?_⟩) (by rw [lines_flat]; simpa using hc)
    · rw [this, lines_flat]
      rfl
    · rw [← lines_flat (lexP s).1]
      exact List.mem_flatten.2 ⟨l, hl, ht⟩
  unfold runP
  rw [if_neg (by rw [h0]; simp), hr]
  generalize lexP s = r at *
  obtain ⟨r1, r2, r3⟩ := r
  simp only at h0 hf
  rw [h0, hf]
  simp
end Go.Proofs.YtdcamcpffiilbaaDoor

/-
  Texts side by side with a blank between, plain: the tokens of both; lines of them.
-/
namespace Go.Proofs.YtdcamcpffiilbaaDoor
set_option linter.unusedVariables false
set_option linter.unusedSimpArgs false

theorem lexA_shape (l : Byts8) (p ln : Int) (n : Nat) : lexA l p ln n = (if (lexA l p ln n).2.1 ≠ 0 then ([], (lexA l p ln n).2) else ((lexA l p ln n).1, 0, 0)) := by
  have h := lexA_form l p ln n
  generalize lexA l p ln n = r at *
  obtain ⟨r1, r2, r3⟩ := r
  simp only at h ⊢
  split
  · rename_i h1
    rw [h.2 h1]
  · rename_i h1
    have h1 : r2 = 0 := by simpa using h1
    rw [h1, h.1 h1]
theorem runN_blank {c : UInt8} (hc : isBl c = true) (b : Byts8) : runN isBl (c :: b) = runN isBl b + 1 := by
  rw [runN, if_pos hc]
theorem lexA_blank {c : UInt8} (hc : isBl c = true) (b : Byts8) (p ln : Int) (n : Nat) : lexA (c :: b) p ln n = lexA (b.drop (runN isBl b)) (p + (runN isBl b + 1 : Nat)) (ln + cntL (c :: b.take (runN isBl b))) n := by
  have hp : pieceP (c :: b) = (-1, runN isBl b + 1) := by
    unfold pieceP
    rw [if_pos (by exact hc), runN_blank hc]
  rw [lexA_gap (by simp) hp]
  simp
/-- A text, a blank, a text: the tokens of both. -/
theorem lex_bl {c : UInt8} (hc : isBl c = true) (b : Byts8) (d : Nat) : ∀ (a : Byts8) (p ln : Int) (n : Nat) (ts : List Tok), a.length ≤ d → (c = 10 ∨ ∀ i, pre2 47 47 (a.drop i) = false) → lexA a p ln n = (ts, 0, 0) →
    lexA (a ++ c :: b) p ln n = (if (lexA (c :: b) (p + a.length) (ln + cntL a) (n + ts.length)).2.1 ≠ 0 then ([], (lexA (c :: b) (p + a.length) (ln + cntL a) (n + ts.length)).2)
      else (ts ++ (lexA (c :: b) (p + a.length) (ln + cntL a) (n + ts.length)).1, 0, 0)) := by
  induction d with
  | zero =>
    intro a p ln n ts hd _ h
    obtain rfl : a = [] := List.length_eq_zero_iff.1 (by omega)
    rw [lexA_nil] at h
    injection h with h1
    subst h1
    simpa [cntL, Lib.countByte] using lexA_shape (c :: b) p ln n
  | succ d ih =>
    intro a p ln n ts hd hs h
    by_cases ha : a = []
    · subst ha
      rw [lexA_nil] at h
      injection h with h1
      subst h1
      simpa [cntL, Lib.countByte] using lexA_shape (c :: b) p ln n
    have hr := piece_room a ha
    obtain ⟨k, z, hp⟩ : ∃ k z, pieceP a = (k, z) := ⟨_, _, rfl⟩
    rw [hp] at hr
    simp only at hr
    have hlen : (a.drop z).length ≤ d := by rw [List.length_drop]; omega
    have hs2 : c = 10 ∨ ∀ i, pre2 47 47 ((a.drop z).drop i) = false := hs.imp id (fun h i => by rw [List.drop_drop]; exact h _)
    have htake : (a ++ c :: b).take z = a.take z := List.take_append_of_le_length (by omega)
    have hdrop : (a ++ c :: b).drop z = a.drop z ++ c :: b := List.drop_append_of_le_length (by omega)
    have hcnt : cntL a = cntL (a.take z) + cntL (a.drop z) := by rw [← cntL_add, List.take_append_drop]
    have hpos : p + (z : Int) + ((a.drop z).length : Int) = p + a.length := by rw [List.length_drop]; omega
    by_cases hk : k = -1
    · subst hk
      rw [lexA_gap ha hp] at h
      by_cases hall : begN isBl a = true ∧ z = a.length
      · -- blanks up to the end
        obtain ⟨h1, h2⟩ := hall
        have hrun : runN isBl a = a.length := by
          unfold pieceP at hp
          rw [if_pos h1] at hp
          injection hp with _ h3
          omega
        have hra : ∀ (x : Byts8), runN isBl x = x.length → ∀ y, runN isBl (x ++ y) = x.length + runN isBl y := fun x => by
          induction x with
          | nil => intro _ y; simp
          | cons e x ihx =>
            intro hx y
            rw [runN] at hx
            split at hx
            · rename_i he
              rw [List.cons_append, runN, if_pos he, ihx (by simpa using hx)]
              simp; omega
            · simp at hx
        have hpa : pieceP (a ++ c :: b) = (-1, a.length + (runN isBl b + 1)) := by
          have hb : begN isBl (a ++ c :: b) = true := by
            cases a with
            | nil => exact absurd rfl ha
            | cons e a => exact h1
          unfold pieceP
          rw [if_pos hb, hra a hrun, runN_blank hc]
        have h0 : a.drop z = [] := List.drop_eq_nil_of_le (by omega)
        rw [h0, lexA_nil] at h
        injection h with h3
        subst h3
        rw [lexA_gap (by simp) hpa]
        have e1 : (a ++ c :: b).drop (a.length + (runN isBl b + 1)) = b.drop (runN isBl b) := by
          rw [List.drop_append, List.drop_eq_nil_of_le (by omega)]
          simp
        have e2 : (a ++ c :: b).take (a.length + (runN isBl b + 1)) = a ++ c :: b.take (runN isBl b) := by
          rw [List.take_append, List.take_of_length_le (by omega)]
          simp
        rw [e1, e2, cntL_add]
        have e3 := lexA_blank hc b (p + a.length) (ln + cntL a) n
        have e4 : lexA (b.drop (runN isBl b)) (p + (a.length + (runN isBl b + 1) : Nat)) (ln + (cntL a + cntL (c :: b.take (runN isBl b)) : Nat)) n = lexA (c :: b) (p + a.length) (ln + cntL a) n := by
          rw [e3]
          congr 1 <;> (push_cast; omega)
        rw [e4]
        simpa using lexA_shape (c :: b) (p + a.length) (ln + cntL a) n
      · have hpa : pieceP (a ++ c :: b) = (-1, z) := by
          by_cases hz : z < a.length
          · have := gap_loc ha hp hz (Nat.le_refl _) (c :: b)
            rwa [List.take_length] at this
          · have hz2 : z = a.length := by omega
            rcases gap_cases hp with ⟨h1, h2⟩ | ⟨h1, h2, h3⟩ | ⟨h1, h2, h3, h4, h5⟩
            · exact absurd ⟨h1, hz2⟩ hall
            · rcases hs with hs | hs
              · subst hs
                have hra : ∀ (x : Byts8), runN isLn x = x.length → runN isLn (x ++ 10 :: b) = x.length := fun x => by
                  induction x with
                  | nil => intro _; rfl
                  | cons e x ihx =>
                    intro hx
                    rw [runN] at hx
                    split at hx
                    · rename_i he
                      rw [List.cons_append, runN, if_pos he, ihx (by simpa using hx)]
                      simp
                    · simp at hx
                have h2l := pre2_len h2
                have e1 := begN_app (p := isBl) (l := a) (m := a.length) (by omega) ha (10 :: b)
                have e2 := pre2_app (u := 47) (v := 47) (l := a) (m := a.length) h2l h2l (10 :: b)
                rw [List.take_length] at e1 e2
                unfold pieceP
                rw [e1, if_neg (by rw [h1]; simp), e2, if_pos h2, hra a (by omega), hz2]
              · have := hs 0
                rw [List.drop_zero, h2] at this
                cases this
            · have := star_loc h1 h2 h3 h4 h5 (m := a.length) (by omega) (c :: b)
              rwa [List.take_length] at this
        rw [lexA_gap (by simp) hpa, htake, hdrop, ih _ _ _ _ _ hlen hs2 h, hpos]
        have e : ln + (cntL (a.take z) : Int) + (cntL (a.drop z) : Int) = ln + cntL a := by rw [hcnt]; push_cast; omega
        rw [e]
    · have ht : (tellP k (a.take z) (a.drop z) n).2 = 0 := by
        by_cases ht : (tellP k (a.take z) (a.drop z) n).2 = 0
        · exact ht
        · rw [lexA_bad ha hp hk p ln n ht] at h
          exact congrArg (fun r : List Tok × Int × Int => r.2.1) h
      have hk2 := tell_kind ht
      have hn : Nice (a.drop z) (a.drop z ++ c :: b) := by
        cases hy : a.drop z with
        | nil => exact nice_blank (Or.inl hc)
        | cons e y => exact nice_same rfl
      obtain ⟨e0, x, hx⟩ : ∃ e0 x, a.take z = e0 :: x := by
        cases hq : a.take z with
        | nil =>
          have h1 := congrArg List.length hq
          rw [List.length_take, List.length_nil] at h1
          omega
        | cons e0 x => exact ⟨e0, x, rfl⟩
      have hzl : (e0 :: x).length = z := by rw [← hx, List.length_take]; omega
      have hpa : pieceP (a ++ c :: b) = (k, z) := by
        have h1 : pieceP (e0 :: x ++ a.drop z) = (k, (e0 :: x).length) := by rw [← hx, List.take_append_drop, hp, hx, hzl]
        have h2 := tok_loc hn h1 hk hk2
        rw [← hx, ← List.append_assoc, List.take_append_drop, hx, hzl] at h2
        exact h2
      rw [lexA_tok ha hp hk p ln n ht] at h
      split at h
      · rename_i h1
        rw [h] at h1
        exact absurd rfl h1
      · rename_i h1
        have h1 : (lexA (a.drop z) (p + z) (ln + cntL (a.take z)) (n + 1)).2.1 = 0 := by simpa using h1
        obtain ⟨us, hus⟩ : ∃ us, us = (lexA (a.drop z) (p + z) (ln + cntL (a.take z)) (n + 1)).1 := ⟨_, rfl⟩
        have hl2 : lexA (a.drop z) (p + z) (ln + cntL (a.take z)) (n + 1) = (us, 0, 0) := by
          rw [lexA_shape, if_neg (by rw [h1]; simp), hus]
        rw [← hus] at h
        injection h with h _
        have ht2 : (tellP k ((a ++ c :: b).take z) ((a ++ c :: b).drop z) n) = tellP k (a.take z) (a.drop z) n := by
          rw [htake, hdrop]
          exact tell_nice hn ht
        rw [lexA_tok (by simp) hpa hk p ln n (by rw [ht2]; exact ht), ht2, htake, hdrop, ih _ _ _ _ _ hlen hs2 hl2, hpos]
        have e : ln + (cntL (a.take z) : Int) + (cntL (a.drop z) : Int) = ln + cntL a := by rw [hcnt]; push_cast; omega
        have e2 : n + 1 + us.length = n + ts.length := by rw [← h]; simp; omega
        rw [e, e2, ← h]
        generalize lexA (c :: b) (p + a.length) (ln + cntL a) (n + _) = r
        obtain ⟨r1, r2, r3⟩ := r
        by_cases hq : r2 = 0 <;> simp [hq]

/-- A blank ahead. -/
theorem lexA_one {c : UInt8} (hc : isBl c = true) (b : Byts8) (p ln : Int) (n : Nat) : lexA (c :: b) p ln n = lexA b (p + 1) (ln + cntL [c]) n := by
  rw [lexA_blank hc]
  by_cases hb : begN isBl b = true
  · have hp : pieceP b = (-1, runN isBl b) := by
      unfold pieceP
      rw [if_pos hb]
    have hne : b ≠ [] := fun e => by subst e; cases hb
    rw [lexA_gap hne hp]
    have h1 : cntL (c :: b.take (runN isBl b)) = cntL [c] + cntL (b.take (runN isBl b)) := cntL_add [c] _
    rw [h1]
    congr 1 <;> (push_cast; omega)
  · have h0 : runN isBl b = 0 := runN_none (by simpa using hb)
    rw [h0]
    simp
theorem tell_ahead2 {k : Int} {t y : Byts8} {n : Nat} (h : (tellP k t y n).2 = 0) : n ≠ 2048 ∧ ∀ m, m ≠ 2048 → tellP k t y m = tellP k t y n := by
  have h1 : ¬ (decide (k = -2) || spoilt k t y) = true := fun e => by
    unfold tellP at h
    rw [if_pos e] at h
    cases h
  have h2 : n ≠ 2048 := fun e => by
    unfold tellP at h
    rw [if_neg h1, if_pos e] at h
    cases h
  refine ⟨h2, fun m hm => ?_⟩
  unfold tellP
  rw [if_neg h1, if_neg h1, if_neg h2, if_neg hm]
/-- Tokens elsewhere. -/
def mvT (dp dl : Int) (t : Tok) : Tok := ⟨t.kind, t.text, t.num, t.place + dp, t.line + dl⟩
/-- The same text at another place, on another line, behind other tokens. -/
theorem lexA_move (d : Nat) : ∀ (l : Byts8) (a ln : Int) (n : Nat) (ts : List Tok), l.length ≤ d → lexA l a ln n = (ts, 0, 0) → ∀ (dp dl : Int) (m : Nat), m + ts.length ≤ 2048 → lexA l (a + dp) (ln + dl) m = (ts.map (mvT dp dl), 0, 0) := by
  induction d with
  | zero =>
    intro l a ln n ts hd h dp dl m _
    obtain rfl : l = [] := List.length_eq_zero_iff.1 (by omega)
    rw [lexA_nil] at h ⊢
    injection h with h1
    subst h1
    rfl
  | succ d ih =>
    intro l a ln n ts hd h dp dl m hm
    by_cases hl : l = []
    · subst hl
      rw [lexA_nil] at h ⊢
      injection h with h1
      subst h1
      rfl
    have hr := piece_room l hl
    obtain ⟨k, z, hp⟩ : ∃ k z, pieceP l = (k, z) := ⟨_, _, rfl⟩
    rw [hp] at hr
    simp only at hr
    have hlen : (l.drop z).length ≤ d := by rw [List.length_drop]; omega
    have q1 : a + dp + (z : Int) = a + z + dp := by omega
    have q2 : ln + dl + (cntL (l.take z) : Int) = ln + cntL (l.take z) + dl := by omega
    by_cases hk : k = -1
    · subst hk
      rw [lexA_gap hl hp] at h ⊢
      rw [q1, q2]
      exact ih _ _ _ _ _ hlen h dp dl m hm
    · have ht : (tellP k (l.take z) (l.drop z) n).2 = 0 := by
        by_cases ht : (tellP k (l.take z) (l.drop z) n).2 = 0
        · exact ht
        · rw [lexA_bad hl hp hk a ln n ht] at h
          exact congrArg (fun r : List Tok × Int × Int => r.2.1) h
      rw [lexA_tok hl hp hk a ln n ht] at h
      split at h
      · rename_i h1
        rw [h] at h1
        exact absurd rfl h1
      · rename_i h1
        have h1 : (lexA (l.drop z) (a + z) (ln + cntL (l.take z)) (n + 1)).2.1 = 0 := by simpa using h1
        obtain ⟨us, hus⟩ : ∃ us, us = (lexA (l.drop z) (a + z) (ln + cntL (l.take z)) (n + 1)).1 := ⟨_, rfl⟩
        have hl2 : lexA (l.drop z) (a + z) (ln + cntL (l.take z)) (n + 1) = (us, 0, 0) := by
          rw [lexA_shape, if_neg (by rw [h1]; simp), hus]
        rw [← hus] at h
        injection h with h _
        have hml : m + 1 + us.length ≤ 2048 := by rw [← h] at hm; simp at hm; omega
        have htm := (tell_ahead2 ht).2 m (by omega)
        rw [lexA_tok hl hp hk _ _ m (by rw [htm]; exact ht), q1, q2, ih _ _ _ _ _ hlen hl2 dp dl (m + 1) hml, htm, ← h]
        simp [mvT]
/-- On which lines. -/
theorem lines_in (d : Nat) : ∀ (l : Byts8) (a ln : Int) (n : Nat) (ts : List Tok), l.length ≤ d → lexA l a ln n = (ts, 0, 0) → ∀ t ∈ ts, ln ≤ t.line ∧ t.line ≤ ln + cntL l := by
  induction d with
  | zero =>
    intro l a ln n ts hd h
    obtain rfl : l = [] := List.length_eq_zero_iff.1 (by omega)
    rw [lexA_nil] at h
    injection h with h1
    subst h1
    intro t ht
    cases ht
  | succ d ih =>
    intro l a ln n ts hd h
    by_cases hl : l = []
    · subst hl
      rw [lexA_nil] at h
      injection h with h1
      subst h1
      intro t ht
      cases ht
    have hr := piece_room l hl
    obtain ⟨k, z, hp⟩ : ∃ k z, pieceP l = (k, z) := ⟨_, _, rfl⟩
    rw [hp] at hr
    simp only at hr
    have hlen : (l.drop z).length ≤ d := by rw [List.length_drop]; omega
    have hcnt : cntL l = cntL (l.take z) + cntL (l.drop z) := by rw [← cntL_add, List.take_append_drop]
    by_cases hk : k = -1
    · subst hk
      rw [lexA_gap hl hp] at h
      intro t ht
      have := ih _ _ _ _ _ hlen h t ht
      omega
    · have ht : (tellP k (l.take z) (l.drop z) n).2 = 0 := by
        by_cases ht : (tellP k (l.take z) (l.drop z) n).2 = 0
        · exact ht
        · rw [lexA_bad hl hp hk a ln n ht] at h
          exact congrArg (fun r : List Tok × Int × Int => r.2.1) h
      rw [lexA_tok hl hp hk a ln n ht] at h
      split at h
      · rename_i h1
        rw [h] at h1
        exact absurd rfl h1
      · rename_i h1
        have h1 : (lexA (l.drop z) (a + z) (ln + cntL (l.take z)) (n + 1)).2.1 = 0 := by simpa using h1
        obtain ⟨us, hus⟩ : ∃ us, us = (lexA (l.drop z) (a + z) (ln + cntL (l.take z)) (n + 1)).1 := ⟨_, rfl⟩
        have hl2 : lexA (l.drop z) (a + z) (ln + cntL (l.take z)) (n + 1) = (us, 0, 0) := by
          rw [lexA_shape, if_neg (by rw [h1]; simp), hus]
        rw [← hus] at h
        injection h with h _
        intro t htm
        rw [← h] at htm
        simp only [List.mem_cons] at htm
        rcases htm with rfl | htm
        · exact ⟨by simp, by simp; omega⟩
        · have := ih _ _ _ _ _ hlen hl2 t htm
          omega
theorem lines_head (u : Tok) (us : List Tok) : ∃ r rs, linesP (u :: us) = (u :: r) :: rs := by
  rw [linesP_cons]
  cases linesP us with
  | nil => exact ⟨[], [], rfl⟩
  | cons r rs =>
    by_cases h : u.line = (hd0 r).line
    · exact ⟨r, rs, linesC_pos _ h⟩
    · exact ⟨[], r :: rs, linesC_neg _ h⟩
/-- Lines of tokens side by side. -/
theorem lines_app : ∀ (ts us : List Tok), (∀ t ∈ ts, ∀ u ∈ us, t.line ≠ u.line) → linesP (ts ++ us) = linesP ts ++ linesP us
  | [], us, _ => rfl
  | t :: ts, us, h => by
    have ih := lines_app ts us (fun x hx => h x (by simp [hx]))
    rw [List.cons_append, linesP_cons, ih, linesP_cons]
    cases ts with
    | nil =>
      cases us with
      | nil => rfl
      | cons u us =>
        obtain ⟨r, rs, e⟩ := lines_head u us
        rw [e]
        exact linesC_neg _ (h t (by simp) u (by simp))
    | cons t2 ts =>
      obtain ⟨r, rs, e⟩ := lines_head t2 ts
      rw [e, List.cons_append]
      by_cases hq : t.line = (hd0 (t2 :: r)).line
      · rw [linesC_pos _ hq, linesC_pos _ hq]; rfl
      · rw [linesC_neg _ hq, linesC_neg _ hq]; rfl
theorem lines_one (n : Int) : ∀ (ts : List Tok), ts ≠ [] → (∀ t ∈ ts, t.line = n) → linesP ts = [ts]
  | [], h, _ => absurd rfl h
  | [t], _, _ => rfl
  | t :: u :: ts, _, h => by
    have ih := lines_one n (u :: ts) (by simp) (fun x hx => h x (by simp only [List.mem_cons] at hx ⊢; exact Or.inr hx))
    rw [linesP_cons, ih]
    exact linesC_pos _ ((h t (by simp)).trans (h u (by simp)).symm)
end Go.Proofs.YtdcamcpffiilbaaDoor

/-
  The layer does something; tokens that are the same, places and lines among it.
-/
namespace Go.Proofs.YtdcamcpffiilbaaDoor
open Go.RowKit
set_option linter.unusedVariables false
set_option linter.unusedSimpArgs false

theorem expT_stay {E : Env} {pl ln : Int} {wi : List Byts8} {t : Tok} (h : (wi.contains t.text || (E t.text).isNone) = true) (f d : Nat) : expT E pl ln f wi t d = some ([⟨t.kind, t.text, t.num, pl, ln⟩], d) := by
  cases f with
  | zero => unfold expT; rw [if_pos h]
  | succ f => unfold expT; rw [if_pos h]
theorem expT_go {E : Env} {pl ln : Int} {wi : List Byts8} {t : Tok} (h : (wi.contains t.text || (E t.text).isNone) = false) (f d : Nat) (hd : d < 2048) : expT E pl ln (f + 1) wi t d = expL (expT E pl ln f (t.text :: wi)) ((E t.text).getD []) (d + 1) := by
  conv => lhs; unfold expT
  rw [if_neg (by rw [h]; decide), if_neg (by omega)]
def wk : Byts8 := [35, 100, 101, 102, 105, 110, 101, 32, 78, 32, 51, 10, 78, 32, 78]
def wkL : List Tok := [⟨4, [35], 0, 0, 0⟩, ⟨1, [100, 101, 102, 105, 110, 101], 0, 1, 0⟩, ⟨1, [78], 0, 8, 0⟩, ⟨2, [51], 196608, 10, 0⟩, ⟨1, [78], 0, 12, 1⟩, ⟨1, [78], 0, 14, 1⟩]
set_option maxRecDepth 100000 in
theorem wk_lex : lexP wk = (wkL, 0, 0) := by
  unfold lexP
  rw [if_neg (by decide), lexA_fuel 15 _ _ _ _ (by decide)]
  kernel_rfl
set_option maxRecDepth 100000 in
theorem fresh_N : freshP [78] = true := by
  have h : lexP [78] = ([⟨1, [78], 0, 0, 0⟩], 0, 0) := by
    unfold lexP
    rw [if_neg (by decide), lexA_fuel 1 _ _ _ _ (by decide)]
    kernel_rfl
  unfold freshP
  rw [h]
  rfl
theorem wk_told (E : Env) (tl : List Tok) (p : Int) (h1 : E [78] = some [⟨2, [51], 196608, 10, 0⟩]) (h2 : E [51] = none) (hl : tl.length ≤ 2047) : toldP E tl ⟨1, [78], 0, p, 1⟩ = some (tl ++ [⟨2, [51], 196608, p, 1⟩]) := by
  have e : expT E p 1 2049 [] ⟨1, [78], 0, p, 1⟩ 0 = some ([⟨2, [51], 196608, p, 1⟩], 1) := by
    rw [show (2049 : Nat) = 2048 + 1 from rfl, expT_go (by rw [h1]; rfl) 2048 0 (by omega)]
    rw [h1]
    simp only [Option.getD_some, expL]
    rw [expT_stay (by rw [h2]; rfl)]
    rfl
  unfold toldP
  rw [e]
  simp only [List.length_cons, List.length_nil]
  rw [if_pos (by omega)]
theorem wk_run : runP wk = ([⟨2, [51], 196608, 12, 1⟩, ⟨2, [51], 196608, 14, 1⟩], 0, 0) := by
  have hr : readP true beginE [] [] (linesP wkL) = (([⟨2, [51], 196608, 12, 1⟩, ⟨2, [51], 196608, 14, 1⟩], []), 0, 0) := by
    have e1 : linesP wkL = [[⟨4, [35], 0, 0, 0⟩, ⟨1, [100, 101, 102, 105, 110, 101], 0, 1, 0⟩, ⟨1, [78], 0, 8, 0⟩, ⟨2, [51], 196608, 10, 0⟩], [⟨1, [78], 0, 12, 1⟩, ⟨1, [78], 0, 14, 1⟩]] := by kernel_rfl
    rw [e1, readP]
    generalize some (wholeL _) = W1
    have e2 : obeyP (setE beginE wLine W1) [] [⟨1, [100, 101, 102, 105, 110, 101], 0, 1, 0⟩, ⟨1, [78], 0, 8, 0⟩, ⟨2, [51], 196608, 10, 0⟩] true = some (setE (setE beginE wLine W1) [78] (some [⟨2, [51], 196608, 10, 0⟩]), []) := by
      simp only [obeyP]
      rw [if_neg (by decide), if_neg (by decide), if_neg (by decide), if_neg (by decide), if_neg (by decide), if_neg (by decide), if_pos (by decide)]
      show Option.map (fun F => (F, ([] : List Part))) (if ([(⟨1, [78], 0, 8, 0⟩ : Tok), ⟨2, [51], 196608, 10, 0⟩] = [] ∨ freshP [78] = false) then none else if (setE beginE wLine W1 [78]).isSome = true then none else some (setE (setE beginE wLine W1) [78] (some [⟨2, [51], 196608, 10, 0⟩]))) = _
      rw [if_neg (by rw [fresh_N]; simp), if_neg (show ¬ (setE beginE wLine W1 [78]).isSome = true from fun h => by have h0 : setE beginE wLine W1 [78] = none := rfl; rw [h0] at h; cases h)]
      rfl
    rw [if_pos (by decide)]
    simp only [List.tail_cons]
    rw [e2]
    simp only
    rw [readP, if_neg (by decide), if_neg (by decide)]
    generalize some (wholeL _) = W2
    have e3 : lineP (setE (setE (setE beginE wLine W1) [78] (some [⟨2, [51], 196608, 10, 0⟩])) wLine W2) [] [⟨1, [78], 0, 12, 1⟩, ⟨1, [78], 0, 14, 1⟩] = ([⟨2, [51], 196608, 12, 1⟩, ⟨2, [51], 196608, 14, 1⟩], 0, 0) := by
      rw [lineP, wk_told _ _ _ rfl rfl (by simp)]
      simp only
      rw [lineP, wk_told _ _ _ rfl rfl (by simp)]
      rfl
    rw [e3]
    rw [if_neg (by decide)]
    rfl
  unfold runP
  rw [wk_lex]
  simp only
  rw [if_neg (by simp), hr]
  simp

set_option maxHeartbeats 1000000 in
set_option maxRecDepth 100000 in
theorem wakes11_any (w : World) (m : Int) (hS : Std w m) : Calls Tryd.prog 4 #[] w fun e w' => e = .returned (.bool true) ∧ Ext w w' := by
  have HL : Hid (Calls Tryd.prog 5 #[.string ⟨#[35, 100, 101, 102, 105, 110, 101, 32, 78, 32, 51, 10, 78, 32, 78]⟩] w fun e w' => ∃ b off cap, e = .returned (.tuple #[.slice (some ⟨b, off, none⟩) 2 cap, .agg #[.int .i64 0, .int .i64 0]]) ∧ 2 ≤ cap ∧ Ext w w' ∧
      w'.cell? ⟨b, off + 1, none⟩ = some (.string ⟨#[51]⟩) ∧ w'.cell? ⟨b, off + 8, none⟩ = some (.int .i64 14)) := by
    have HL := run2_any ⟨#[35, 100, 101, 102, 105, 110, 101, 32, 78, 32, 51, 10, 78, 32, 78]⟩ w m hS
    rw [show (⟨#[35, 100, 101, 102, 105, 110, 101, 32, 78, 32, 51, 10, 78, 32, 78]⟩ : ByteArray).data.toList = wk from rfl, wk_run] at HL
    refine HL.mono ?_
    rintro e w1 ⟨ao, cap, rfl, hown, hx⟩
    obtain ⟨_, _, e0, _, hc, _⟩ := hown.shape
    cases e0
    obtain ⟨b, off, rfl, t0⟩ := hown.tr.at 0 (by decide)
    obtain ⟨b', off', e1, t1⟩ := hown.tr.at 1 (by decide)
    cases e1
    exact ⟨b, off, cap, rfl, hc, hx, t0.text, t1.place⟩
  clear hS
  go_enter Tryd.func4, Tryd.ntmps4
  go_wp2_with fail
  refine (unhide HL).mono ?_
  rintro e w1 ⟨b, off, cap, rfl, hcap, hx, c1, c2⟩
  have hc : ∀ (o : Obj) j u, w1.cell? ⟨b, j, none⟩ = some u → (w1.alloc o).cell? ⟨b, j, none⟩ = some u := fun o j u hu => by
    rw [((Ext.refl w1).alloc o).cell (p := ⟨b, j, none⟩) (World.block_lt_of_cell? w1 _ hu)]
    exact hu
  have d1 := fun o => hc o _ _ c1
  have d2 := fun o => hc o _ _ c2
  have X := hide hx
  clear hx hc c1 c2 HL
  go_wp2
  go_ret
  exact ⟨rfl, (unhide X).alloc _⟩
end Go.Proofs.YtdcamcpffiilbaaDoor

/-
  A word that stands for tokens is these, plain.
-/
namespace Go.Proofs.YtdcamcpffiilbaaDoor
set_option linter.unusedVariables false
set_option linter.unusedSimpArgs false

/-- A token of what a word stands for, where the word stands. -/
def atT (u t : Tok) : Tok := ⟨t.kind, t.text, t.num, u.place, u.line⟩
theorem exp_stay {E : Env} {t : Tok} (h : E t.text = none) (pl ln : Int) (f : Nat) (wi : List Byts8) (d : Nat) : expT E pl ln f wi t d = some ([⟨t.kind, t.text, t.num, pl, ln⟩], d) := by
  have h2 : (wi.contains t.text || (E t.text).isNone) = true := by rw [h]; simp
  cases f with
  | zero => unfold expT; rw [if_pos h2]
  | succ f => unfold expT; rw [if_pos h2]
theorem exp_all {E : Env} (u : Tok) (f : Nat) (wi : List Byts8) (d : Nat) : ∀ (L : List Tok), (∀ t ∈ L, E t.text = none) → expL (expT E u.place u.line f wi) L d = some (L.map (atT u), d)
  | [], _ => rfl
  | t :: L, h => by
    rw [expL, exp_stay (h t (by simp))]
    simp only
    rw [exp_all u f wi d L (fun x hx => h x (by simp [hx]))]
    rfl
theorem told_word {E : Env} {L : List Tok} {u : Tok} (hw : E u.text = some L) (hL : ∀ t ∈ L, E t.text = none) (tl : List Tok) (hl : tl.length + L.length ≤ 2048) : toldP E tl u = some (tl ++ L.map (atT u)) := by
  unfold toldP
  have h2 : ¬ (([] : List Byts8).contains u.text || (E u.text).isNone) = true := by rw [hw]; simp
  rw [expT, if_neg h2, if_neg (by omega), hw]
  simp only [Option.getD_some]
  rw [exp_all u _ _ _ L hL]
  simp only [List.length_map]
  rw [if_pos hl]
theorem line_word {E : Env} {L : List Tok} (hL : ∀ t ∈ L, E t.text = none) : ∀ (NT tl : List Tok), (∀ u ∈ NT, E u.text = some L) → tl.length + NT.length * L.length ≤ 2048 → lineP E tl NT = (tl ++ NT.flatMap (fun u => L.map (atT u)), 0, 0)
  | [], tl, _, _ => by simp [lineP]
  | u :: NT, tl, h, hl => by
    have e : (u :: NT).length * L.length = L.length + NT.length * L.length := by rw [List.length_cons, Nat.add_mul]; omega
    rw [e] at hl
    rw [lineP, told_word (h u (by simp)) hL tl (by omega)]
    simp only
    rw [line_word hL NT _ (fun x hx => h x (by simp [hx])) (by rw [List.length_append, List.length_map]; omega)]
    simp
/-- A line that says what a word stands for, then a line of that word. -/
theorem read_def {w : Byts8} (hf : freshP w = true) (h0 : beginE w = none) (hwl : w ≠ wLine) {L NT : List Tok} {t0 t1 t2 : Tok} (e0 : t0.text = [35]) (e1 : t1.text = tDefine) (e2 : t2.text = w) (hw35 : w ≠ [35])
    (hNT : ∀ u ∈ NT, u.text = w) (hL : ∀ t ∈ L, plainT t = true ∧ t.text ≠ w) (hb : NT.length * L.length ≤ 2048) (ls : List (List Tok)) (hls : ls = [] ∧ NT = [] ∨ ls = [NT] ∧ NT ≠ []) :
    readP true beginE [] [] ((t0 :: t1 :: t2 :: L) :: ls) = ((NT.flatMap (fun u => L.map (atT u)), []), 0, 0) := by
  rw [readP]
  generalize some (wholeL _) = W1
  have hE1 : setE beginE wLine W1 w = none := by unfold setE; rw [if_neg hwl]; exact h0
  have e3 : obeyP (setE beginE wLine W1) [] (t1 :: t2 :: L) true = some (setE (setE beginE wLine W1) w (some L), []) := by
    simp only [obeyP]
    rw [e1, if_neg (by decide), if_neg (by decide), if_neg (by decide), if_neg (by decide), if_neg (by decide), if_neg (by decide), if_pos rfl]
    have e4 : defineP (setE beginE wLine W1) (t2 :: L) = some (setE (setE beginE wLine W1) w (some L)) := by
      unfold defineP
      have e5 : (hd0 (t2 :: L)).text = w := e2
      rw [e5, if_neg (by rw [hf]; simp), if_neg (by rw [hE1]; simp)]
      rfl
    rw [e4]
    rfl
  rw [if_pos (show (hd0 (t0 :: t1 :: t2 :: L)).text = [35] from e0)]
  simp only [List.tail_cons]
  rw [e3]
  simp only
  rcases hls with ⟨rfl, rfl⟩ | ⟨rfl, hne⟩
  · rfl
  · have h35 : ¬ (hd0 NT).text = [35] := by
      cases NT with
      | nil => exact absurd rfl hne
      | cons u NT =>
        have h1 := hNT u (by simp)
        show ¬ u.text = [35]
        rw [h1]
        exact hw35
    rw [readP, if_neg h35, if_neg (by decide)]
    generalize some (wholeL _) = W2
    have hE3 : setE (setE (setE beginE wLine W1) w (some L)) wLine W2 w = some L := by
      unfold setE
      rw [if_neg hwl, if_pos rfl]
    have hE4 : ∀ t ∈ L, setE (setE (setE beginE wLine W1) w (some L)) wLine W2 t.text = none := fun t ht => by
      obtain ⟨hp, hn⟩ := hL t ht
      obtain ⟨_, h1, h2, h3⟩ := plainT_parts hp
      unfold setE
      rw [if_neg h2, if_neg hn, if_neg h2]
      exact begin_first _ h1 h2 h3
    have hln := line_word hE4 NT [] (fun u hu => by rw [hNT u hu]; exact hE3) (by simpa using hb)
    rw [hln]
    simp only [List.nil_append]
    rw [if_neg (by simp)]
    rfl
theorem copies_len (L : List Tok) : ∀ NT : List Tok, (NT.flatMap (fun u => L.map (atT u))).length = NT.length * L.length
  | [] => by simp
  | u :: NT => by
    rw [List.flatMap_cons, List.length_append, copies_len L NT, List.length_map, List.length_cons, Nat.add_mul]
    omega
theorem copies_at (L : List Tok) (hm : 0 < L.length) : ∀ (NT : List Tok) (i : Nat) (h : i < (NT.flatMap (fun u => L.map (atT u))).length), ((NT.flatMap (fun u => L.map (atT u)))[i]).text = (L[i % L.length]'(Nat.mod_lt _ hm)).text ∧ ((NT.flatMap (fun u => L.map (atT u)))[i]).kind = (L[i % L.length]'(Nat.mod_lt _ hm)).kind
  | [], i, h => by simp at h
  | u :: NT, i, h => by
    have hc : (u :: NT).flatMap (fun u => L.map (atT u)) = L.map (atT u) ++ NT.flatMap (fun u => L.map (atT u)) := List.flatMap_cons
    simp only [hc] at h ⊢
    by_cases hi : i < L.length
    · rw [List.getElem_append_left (by simpa using hi)]
      have e : i % L.length = i := Nat.mod_eq_of_lt hi
      simp [atT, e]
    · rw [List.getElem_append_right (by simp; omega)]
      rw [List.length_append, List.length_map] at h
      have ih := copies_at L hm NT (i - L.length) (by omega)
      have e : i % L.length = (i - L.length) % L.length := Nat.mod_eq_sub_mod (by omega)
      simp only [List.length_map, e]
      exact ih

def wName : Byts8 := [78, 65, 77, 69]
def dName : Byts8 := [35, 100, 101, 102, 105, 110, 101, 32, 78, 65, 77, 69]
def nmL : Nat → Byts8
  | 0 => []
  | k + 1 => 32 :: (wName ++ nmL k)
theorem nmL_snoc : ∀ k, nmL k ++ 32 :: wName = nmL (k + 1)
  | 0 => by simp [nmL]
  | k + 1 => by
    show 32 :: (wName ++ nmL k) ++ 32 :: wName = 32 :: (wName ++ nmL (k + 1))
    rw [← nmL_snoc k]
    simp
theorem nmL_len : ∀ k, (nmL k).length = 5 * k
  | 0 => rfl
  | k + 1 => by
    show (32 :: (wName ++ nmL k)).length = _
    rw [List.length_cons, List.length_append, nmL_len k]
    simp [wName]
    omega
theorem no_sl {a : Byts8} (h : ∀ i, i < a.length → pre2 47 47 (a.drop i) = false) : ∀ i, pre2 47 47 (a.drop i) = false := fun i => by
  by_cases hi : i < a.length
  · exact h i hi
  · rw [List.drop_eq_nil_of_le (by omega)]
    rfl
theorem lex_name1 (p ln : Int) (n : Nat) (hn : n < 2048) : lexA wName p ln n = ([⟨1, wName, 0, p, ln⟩], 0, 0) := by
  have h0 : lexA wName 0 0 0 = ([⟨1, wName, 0, 0, 0⟩], 0, 0) := by
    rw [lexA_fuel 4 _ _ _ _ (by decide)]
    kernel_rfl
  have h1 := lexA_move 4 wName 0 0 0 _ (by decide) h0 p ln n (by simp; omega)
  simpa [mvT] using h1
theorem lex_nm : ∀ (k : Nat) (p ln : Int) (n : Nat), n + k ≤ 2048 → ∃ ts, lexA (nmL k) p ln n = (ts, 0, 0) ∧ ts.length = k ∧ ∀ t ∈ ts, t.text = wName ∧ t.line = ln
  | 0, p, ln, n, _ => ⟨[], lexA_nil _ _ _, rfl, fun t h => by cases h⟩
  | 1, p, ln, n, h => by
    refine ⟨[⟨1, wName, 0, p + 1, ln⟩], ?_, rfl, fun t ht => ?_⟩
    · show lexA (32 :: (wName ++ [])) p ln n = _
      rw [List.append_nil, lexA_one (by decide), lex_name1 _ _ _ (by omega)]
      have e : ln + (cntL [32] : Nat) = ln := by
        have : cntL [32] = 0 := by decide
        rw [this]; simp
      rw [e]
    · simp at ht
      subst ht
      exact ⟨rfl, rfl⟩
  | k + 2, p, ln, n, h => by
    obtain ⟨ts, h1, h2, h3⟩ := lex_nm (k + 1) (p + 1 + 4) ln (n + 1) (by omega)
    refine ⟨⟨1, wName, 0, p + 1, ln⟩ :: ts, ?_, by simp [h2], fun t ht => ?_⟩
    · show lexA (32 :: (wName ++ 32 :: (wName ++ nmL k))) p ln n = _
      have e : ln + (cntL [32] : Nat) = ln := by
        have : cntL [32] = 0 := by decide
        rw [this]; simp
      rw [lexA_one (by decide), e, lex_bl (by decide) (wName ++ nmL k) 4 wName (p + 1) ln n _ (by decide) (Or.inr (no_sl (by decide))) (lex_name1 _ _ _ (by omega))]
      have e2 : ln + (cntL wName : Nat) = ln := by
        have : cntL wName = 0 := by decide
        rw [this]; simp
      have e3 : lexA (32 :: (wName ++ nmL k)) (p + 1 + (wName.length : Nat)) (ln + (cntL wName : Nat)) (n + [(⟨1, wName, 0, p + 1, ln⟩ : Tok)].length) = (ts, 0, 0) := by
        rw [e2]
        exact h1
      rw [e3]
      simp
    · simp only [List.mem_cons] at ht
      rcases ht with rfl | ht
      · exact ⟨rfl, rfl⟩
      · exact h3 t ht
theorem fresh_NAME : freshP wName = true := by
  have h : lexP wName = ([⟨1, wName, 0, 0, 0⟩], 0, 0) := by
    unfold lexP
    rw [if_neg (by decide)]
    exact lex_name1 0 0 0 (by omega)
  unfold freshP
  rw [h]
  decide
theorem lex_dName : lexA dName 0 0 0 = ([⟨4, [35], 0, 0, 0⟩, ⟨1, tDefine, 0, 1, 0⟩, ⟨1, wName, 0, 8, 0⟩], 0, 0) := by
  rw [lexA_fuel 12 _ _ _ _ (by decide)]
  kernel_rfl
/-- What PreNames' text is told as. -/
theorem names_run {body : Byts8} {l : List Tok} (h : lexA body 0 0 0 = (l, 0, 0)) (hp : ∀ t ∈ l, plainT t = true ∧ t.text ≠ wName ∧ t.line = 0) (hl : l.length ≤ 20) (hb : body.length ≤ 400) {k : Nat} (hk : k < 20) :
    ∃ G, runP (dName ++ 32 :: (body ++ 10 :: nmL k)) = (G, 0, 0) ∧ G.length = k * l.length ∧ ∀ (i : Nat) (hi : i < G.length) (hm : 0 < l.length), G[i].text = (l[i % l.length]'(Nat.mod_lt _ hm)).text ∧ G[i].kind = (l[i % l.length]'(Nat.mod_lt _ hm)).kind := by
  obtain ⟨A, hA⟩ : ∃ A, A = dName ++ 32 :: body := ⟨_, rfl⟩
  have hAl : A.length = 13 + body.length := by rw [hA]; simp [dName]; omega
  have htext : dName ++ 32 :: (body ++ 10 :: nmL k) = A ++ 10 :: nmL k := by rw [hA]; simp
  have hm := lexA_move body.length body 0 0 0 l (Nat.le_refl _) h 13 0 3 (by omega)
  obtain ⟨l2, hl2⟩ : ∃ l2, l2 = l.map (mvT 13 0) := ⟨_, rfl⟩
  rw [← hl2] at hm
  have hll : l2.length = l.length := by rw [hl2, List.length_map]
  have hLA : lexA A 0 0 0 = (⟨4, [35], 0, 0, 0⟩ :: ⟨1, tDefine, 0, 1, 0⟩ :: ⟨1, wName, 0, 8, 0⟩ :: l2, 0, 0) := by
    rw [hA, lex_bl (by decide) body 12 dName 0 0 0 _ (by decide) (Or.inr (no_sl (by decide))) lex_dName]
    have e : lexA (32 :: body) ((0 : Int) + (dName.length : Nat)) ((0 : Int) + (cntL dName : Nat)) (0 + [(⟨4, [35], 0, 0, 0⟩ : Tok), ⟨1, tDefine, 0, 1, 0⟩, ⟨1, wName, 0, 8, 0⟩].length) = (l2, 0, 0) := by
      rw [lexA_one (by decide)]
      exact hm
    rw [e]
    simp
  obtain ⟨ts, h1, h2, h3⟩ := lex_nm k (A.length + 1) (cntL A + 1) (3 + l2.length) (by omega)
  have hX : lexA (A ++ 10 :: nmL k) 0 0 0 = ((⟨4, [35], 0, 0, 0⟩ :: ⟨1, tDefine, 0, 1, 0⟩ :: ⟨1, wName, 0, 8, 0⟩ :: l2) ++ ts, 0, 0) := by
    rw [lex_bl (by decide) (nmL k) A.length A 0 0 0 _ (Nat.le_refl _) (Or.inl rfl) hLA]
    have e : lexA (10 :: nmL k) ((0 : Int) + (A.length : Nat)) ((0 : Int) + (cntL A : Nat)) (0 + (⟨4, [35], 0, 0, 0⟩ :: ⟨1, tDefine, 0, 1, 0⟩ :: ⟨1, wName, 0, 8, 0⟩ :: l2 : List Tok).length) = (ts, 0, 0) := by
      rw [lexA_one (by decide), Int.zero_add, Int.zero_add]
      have e1 : (0 + (⟨4, [35], 0, 0, 0⟩ :: ⟨1, tDefine, 0, 1, 0⟩ :: ⟨1, wName, 0, 8, 0⟩ :: l2 : List Tok).length) = 3 + l2.length := by simp; omega
      rw [e1]
      exact h1
    rw [e]
    simp
  have hlines0 : ∀ t ∈ (⟨4, [35], 0, 0, 0⟩ :: ⟨1, tDefine, 0, 1, 0⟩ :: ⟨1, wName, 0, 8, 0⟩ :: l2 : List Tok), t.line = 0 := fun t ht => by
    simp only [List.mem_cons] at ht
    rcases ht with rfl | rfl | rfl | ht
    · rfl
    · rfl
    · rfl
    · rw [hl2] at ht
      obtain ⟨u, hu, rfl⟩ := List.mem_map.1 ht
      have := (hp u hu).2.2
      simp [mvT, this]
  have hlines : ∃ ls, linesP ((⟨4, [35], 0, 0, 0⟩ :: ⟨1, tDefine, 0, 1, 0⟩ :: ⟨1, wName, 0, 8, 0⟩ :: l2) ++ ts) = (⟨4, [35], 0, 0, 0⟩ :: ⟨1, tDefine, 0, 1, 0⟩ :: ⟨1, wName, 0, 8, 0⟩ :: l2) :: ls ∧ (ls = [] ∧ ts = [] ∨ ls = [ts] ∧ ts ≠ []) := by
    refine ⟨linesP ts, ?_, ?_⟩
    · rw [lines_app _ _ (fun t ht u hu => by rw [hlines0 t ht, (h3 u hu).2]; omega), lines_one 0 _ (by simp) hlines0]
      rfl
    · by_cases hts : ts = []
      · subst hts; exact Or.inl ⟨rfl, rfl⟩
      · exact Or.inr ⟨lines_one _ ts hts (fun t ht => (h3 t ht).2), hts⟩
  obtain ⟨ls, hls, hls2⟩ := hlines
  have hpl : ∀ t ∈ l2, plainT t = true ∧ t.text ≠ wName := fun t ht => by
    rw [hl2] at ht
    obtain ⟨u, hu, rfl⟩ := List.mem_map.1 ht
    exact ⟨(hp u hu).1, (hp u hu).2.1⟩
  have hmul : ts.length * l2.length ≤ 2048 := by
    rw [h2, hll]
    have : k * l.length ≤ 20 * 20 := Nat.mul_le_mul (by omega) hl
    omega
  have hrd := read_def fresh_NAME (by decide) (by decide) (t0 := ⟨4, [35], 0, 0, 0⟩) (t1 := ⟨1, tDefine, 0, 1, 0⟩) (t2 := ⟨1, wName, 0, 8, 0⟩) rfl rfl rfl (by decide) (fun u hu => (h3 u hu).1) hpl hmul ls hls2
  refine ⟨ts.flatMap (fun u => l2.map (atT u)), ?_, ?_, ?_⟩
  · rw [htext]
    unfold runP
    have hP : lexP (A ++ 10 :: nmL k) = ((⟨4, [35], 0, 0, 0⟩ :: ⟨1, tDefine, 0, 1, 0⟩ :: ⟨1, wName, 0, 8, 0⟩ :: l2) ++ ts, 0, 0) := by
      unfold lexP
      rw [if_neg (by rw [List.length_append, List.length_cons, nmL_len]; omega), hX]
    rw [hP]
    simp only
    rw [if_neg (by simp), hls, hrd]
    simp
  · rw [copies_len, h2, hll]
  · intro i hi hm0
    have := copies_at l2 (by omega) ts i hi
    have e : i % l2.length = i % l.length := by rw [hll]
    simp only [e] at this
    refine ⟨this.1.trans ?_, this.2.trans ?_⟩
    · simp [hl2, mvT]
    · simp [hl2, mvT]
end Go.Proofs.YtdcamcpffiilbaaDoor

/-
  The document's bytes: blank, digit, letter, at; behind blanks and comments: Skip.
-/
namespace Go.Proofs.YtdcamcpffiilbaaDoor
open Go.RowKit
set_option linter.unusedSimpArgs false
set_option linter.unusedVariables false

theorem refBlank_any : Tells 54 isBl := by
  intro c w
  go_enter Tryd.func54, Tryd.ntmps54
  go_wp2
  all_goals
    go_ret
    refine ⟨congrArg (fun b => Ending.returned (Value.bool b)) ?_, rfl⟩
    rw [Bool.eq_iff_iff]
    simp [isBl]
    try omega
theorem refDigit_any : Tells 57 isDg := by
  intro c w
  go_enter Tryd.func57, Tryd.ntmps57
  go_wp2
  all_goals
    go_ret
    refine ⟨congrArg (fun b => Ending.returned (Value.bool b)) ?_, rfl⟩
    rw [Bool.eq_iff_iff]
    simp [isDg]
    try omega
theorem refLetter_any : Tells 56 isLt := by
  intro c w
  go_enter Tryd.func56, Tryd.ntmps56
  go_wp2
  all_goals
    go_ret
    refine ⟨congrArg (fun b => Ending.returned (Value.bool b)) ?_, rfl⟩
    rw [Bool.eq_iff_iff]
    simp [isLt]
    try omega
/-- The byte at a place; 0: there is none. -/
def atP (l : Byts8) (i : Nat) : UInt8 := l.getD i 0
theorem refAt_any (s : ByteArray) (i : Nat) (w : World) : Calls Tryd.prog 55 #[.string s, .int .i64 (i : Int)] w fun e w' => e = .returned (.int .u8 ((atP s.data.toList i).toNat : Int)) ∧ w' = w := by
  by_cases h : i < s.size
  · have e : atP s.data.toList i = s[i] := by
      unfold atP
      have h2 : i < s.data.toList.length := by simpa using h
      rw [List.getD_eq_getElem?_getD, List.getElem?_eq_getElem h2]
      rfl
    rw [e]
    go_enter Tryd.func55, Tryd.ntmps55
    go_wp2
    go_ret
    exact ⟨rfl, rfl⟩
  · have e : atP s.data.toList i = 0 := by
      unfold atP
      rw [List.getD_eq_getElem?_getD, List.getElem?_eq_none (by simp; omega)]
      rfl
    rw [e]
    go_enter Tryd.func55, Tryd.ntmps55
    go_wp2
    go_ret
    exact ⟨rfl, rfl⟩
/-- Where Skip comes to from a place on, and whether no comment is without an end. -/
def skipE (l : Byts8) (i : Nat) : Nat × Bool := if (pieceP (l.drop (i + skipN (l.drop i)))).1 = -2 ∧ pre2 47 42 (l.drop (i + skipN (l.drop i))) = true then (i + skipN (l.drop i), false) else (i + skipN (l.drop i), true)

theorem pre2_drop (l : Byts8) (i : Nat) (u v : UInt8) (hi : i < l.length) (hv : v ≠ 0) : pre2 u v (l.drop i) = ((atP l i == u) && (atP l (i + 1) == v)) := by
  have e0 : atP l i = l[i] := by unfold atP; simp [hi]
  rw [List.drop_eq_getElem_cons hi, e0]
  by_cases h1 : i + 1 < l.length
  · have e1 : atP l (i + 1) = l[i + 1] := by unfold atP; simp [h1]
    rw [List.drop_eq_getElem_cons h1, pre2_cons, e1, Bool.eq_iff_iff]
    simp only [Bool.and_eq_true, beq_iff_eq]
    constructor <;> rintro ⟨h1, h2⟩ <;> exact ⟨h1.symm, h2.symm⟩
  · have e1 : atP l (i + 1) = 0 := by unfold atP; rw [List.getD_eq_getElem?_getD, List.getElem?_eq_none (by omega)]; rfl
    rw [List.drop_of_length_le (by omega), pre2_one, e1]
    rw [show ((0 : UInt8) == v) = false by simpa using fun e => hv e.symm]
    simp

theorem skip_blank1 {l : Byts8} (h : begN isBl l = true) : skipN l = 1 + skipN (l.drop 1) := by
  have hne : l ≠ [] := by intro e; subst e; simp [begN] at h
  have hp : pieceP l = (-1, runN isBl l) := by unfold pieceP; rw [if_pos h]
  rw [skip_gap hne hp]
  have hpos := runN_pos h
  have hst := runN_step (p := isBl) (l := l) (n := 1) hpos
  by_cases h1 : runN isBl l = 1
  · rw [h1]
  · have hb : begN isBl (l.drop 1) = true := by
      by_cases hb : begN isBl (l.drop 1) = true
      · exact hb
      · have : runN isBl (l.drop 1) = 0 := by
          cases hd : l.drop 1 with
          | nil => rfl
          | cons c r =>
            rw [hd] at hb
            rw [runN_cons, if_neg (by simpa [begN] using hb)]
        omega
    have hne2 : l.drop 1 ≠ [] := by intro e; rw [e] at hb; simp [begN] at hb
    have hp2 : pieceP (l.drop 1) = (-1, runN isBl (l.drop 1)) := by unfold pieceP; rw [if_pos hb]
    rw [skip_gap hne2 hp2, List.drop_drop]
    have e1 : runN isBl l = 1 + runN isBl (l.drop 1) := by omega
    rw [e1, Nat.add_assoc]
theorem index_step (l : Byts8) (k : Nat) (hk : k < l.length) (h : pre2 42 47 (l.drop k) = false) : Lib.index (l.drop k) [42, 47] = if Lib.index (l.drop (k + 1)) [42, 47] = -1 then -1 else Lib.index (l.drop (k + 1)) [42, 47] + 1 := by
  rw [List.drop_eq_getElem_cons hk] at h ⊢
  rw [Lib.index]
  have h' : ¬ ([42, 47] : Byts8).isPrefixOf (l[k] :: l.drop (k + 1)) = true := by
    unfold pre2 Lib.hasPrefix at h
    rw [h]
    simp
  rw [if_neg h']
  simp only [beq_iff_eq]
theorem index_hit (l : Byts8) (k : Nat) (hk : k < l.length) (h : pre2 42 47 (l.drop k) = true) : Lib.index (l.drop k) [42, 47] = 0 := by
  rw [List.drop_eq_getElem_cons hk] at h ⊢
  rw [Lib.index]
  unfold pre2 Lib.hasPrefix at h
  rw [if_pos h]
theorem index_short (l : Byts8) (h : l.length ≤ 1) : Lib.index l [42, 47] = -1 := by
  rcases l with _ | ⟨a, _ | ⟨b, r⟩⟩
  · rfl
  · simp [Lib.index, List.isPrefixOf]
  · simp at h

theorem u8beq (c d : UInt8) : ((c.toNat : Int) == (d.toNat : Int)) = (c == d) := by
  rw [Bool.eq_iff_iff]
  simp only [beq_iff_eq]
  constructor
  · intro h
    exact UInt8.toNat_inj.1 (by exact_mod_cast h)
  · intro h
    rw [h]
/-- Where Skip comes to, step by step. -/
def skipTo (l : Byts8) (i : Nat) : Nat := i + skipN (l.drop i)
theorem skipTo_gap {l : Byts8} {i z : Nat} (hi : i < l.length) (hp : pieceP (l.drop i) = (-1, z)) : skipTo l i = skipTo l (i + z) := by
  have hne : l.drop i ≠ [] := by
    intro e
    have := congrArg List.length e
    rw [List.length_drop, List.length_nil] at this
    omega
  unfold skipTo
  rw [skip_gap hne hp, List.drop_drop, Nat.add_assoc]
theorem skipTo_blank {l : Byts8} {i : Nat} (h : begN isBl (l.drop i) = true) : skipTo l i = skipTo l (i + 1) := by
  unfold skipTo
  rw [skip_blank1 h, List.drop_drop, Nat.add_assoc]
theorem begN_at (p : UInt8 → Bool) (s : ByteArray) (i : Nat) (h : i < s.size) : begN p (s.data.toList.drop i) = p s[i] := by
  rw [drop_get s i h]
  rfl
theorem atP_get (s : ByteArray) (i : Nat) (h : i < s.size) : atP s.data.toList i = s[i] := by
  unfold atP
  have h2 : i < s.data.toList.length := by simpa using h
  rw [List.getD_eq_getElem?_getD, List.getElem?_eq_getElem h2]
  rfl

set_option maxHeartbeats 4000000 in
set_option maxRecDepth 100000 in
theorem refSkip_any (s : ByteArray) (i0 : Nat) (w : World) (hi0 : i0 ≤ s.size) (hs : s.size ≤ 8192) :
    Calls Tryd.prog 24 #[.string s, .int .i64 (i0 : Int)] w fun e w' => e = .returned (.tuple #[.int .i64 ((skipTo s.data.toList i0 : Nat) : Int), .bool (!(decide ((pieceP (s.data.toList.drop (skipTo s.data.toList i0))).1 = -2) && pre2 47 42 (s.data.toList.drop (skipTo s.data.toList i0))))]) ∧ w' = w := by
  obtain ⟨E, hE⟩ : ∃ E, skipTo s.data.toList i0 = E := ⟨_, rfl⟩
  rw [hE]
  have HE := hide hE
  clear hE
  have hl := list_size s
  obtain ⟨ok, hok⟩ : ∃ ok, (!(decide ((pieceP (s.data.toList.drop E)).1 = -2) && pre2 47 42 (s.data.toList.drop E))) = ok := ⟨_, rfl⟩
  rw [hok]
  have HOK := hide hok
  clear hok
  go_enter Tryd.func24, Tryd.ntmps24
  go_wp2
  go_loop [1] (fun iv => ∃ i : Nat, i ≤ s.size ∧ iv = .int .i64 i ∧ skipTo s.data.toList i = E) (fun iv => s.size - (intOf iv).toNat)
  case atStart => exact ⟨i0, hi0, rfl, unhide HE⟩
  case round =>
    obtain ⟨i, hi, rfl, hiE⟩ := hrel
    have HIE := hide hiE
    clear hiE HE
    by_cases hlt : i < s.size
    · have hil : i < s.data.toList.length := by omega
      have HBL := hide (refBlank_any s[i])
      by_cases cb : isBl s[i] = true
      · rw [cb] at HBL
        have HNX : Hid (skipTo s.data.toList (i + 1) = E) := by
          show skipTo s.data.toList (i + 1) = E
          rw [← unhide HIE]
          exact (skipTo_blank (by rw [begN_at isBl s i hlt]; exact cb)).symm
        clear cb
        go_wp2_with (go_at_call 54; refine (unhide HBL _).mono ?_; rintro e w1 ⟨rfl, rfl⟩)
        refine ⟨⟨i + 1, by omega, rfl, unhide HNX⟩, ?_⟩
        simp [intOf]
        omega
      · have cb' : isBl s[i] = false := by simpa using cb
        rw [cb'] at HBL
        have HBF : Hid (begN isBl (s.data.toList.drop i) = false) := by
          show begN isBl (s.data.toList.drop i) = false
          rw [begN_at isBl s i hlt]
          exact cb'
        clear cb cb'
        have HAT := hide (refAt_any s (i + 1))
        have HP1 := hide (pre2_drop s.data.toList i 47 47 hil (by decide))
        have HP2 := hide (pre2_drop s.data.toList i 47 42 hil (by decide))
        rw [atP_get s i hlt] at HP1 HP2
        have u1 := u8beq s[i] 47
        have u2 := u8beq (atP s.data.toList (i + 1)) 47
        have u3 := u8beq (atP s.data.toList (i + 1)) 42
        have U1 := hide u1; have U2 := hide u2; have U3 := hide u3
        clear u1 u2 u3
        by_cases c0 : s[i] = 47
        · have t0 : ((s[i].toNat : Int) == 47) = true := by
            have := unhide U1
            rw [c0] at this ⊢
            rfl
          have b0 : (s[i] == (47 : UInt8)) = true := by rw [c0]; rfl
          rw [b0, Bool.true_and] at HP1 HP2
          have T0 := hide t0
          clear c0 b0 t0
          generalize atP s.data.toList (i + 1) = c at *
          by_cases c1 : c = 47
          · have t1 : ((c.toNat : Int) == 47) = true := by rw [c1]; rfl
            have p1 : pre2 47 47 (s.data.toList.drop i) = true := by rw [unhide HP1, c1]; rfl
            have hpc : pieceP (s.data.toList.drop i) = (-1, runN isLn (s.data.toList.drop i)) := by
              unfold pieceP
              rw [if_neg (by rw [unhide HBF]; simp), if_pos p1]
            have HNX : Hid (skipTo s.data.toList (i + runN isLn (s.data.toList.drop i)) = E) := by
              show skipTo s.data.toList (i + runN isLn (s.data.toList.drop i)) = E
              rw [← unhide HIE]
              exact (skipTo_gap hil hpc).symm
            have hrl := runN_le isLn (s.data.toList.drop i)
            rw [List.length_drop, hl] at hrl
            have hr1 : 1 ≤ runN isLn (s.data.toList.drop i) := by
              have := (piece_room (s.data.toList.drop i) (by intro e; have := congrArg List.length e; rw [List.length_drop, List.length_nil] at this; omega)).1
              rw [hpc] at this
              exact this
            have t0 := unhide T0
            clear p1 hpc HP1 HP2 HBF HIE U1 U2 U3 c1
            go_wp2_with (first | (go_at_call 54; refine (unhide HBL _).mono ?_; rintro e w1 ⟨rfl, rfl⟩) | (go_at_call 55; refine (unhide HAT _).mono ?_; rintro e w1 ⟨rfl, rfl⟩))
            go_loop [1] (fun iv => ∃ j : Nat, j ≤ runN isLn (s.data.toList.drop i) ∧ iv = .int .i64 ((i + j : Nat) : Int)) (fun iv => s.size - (intOf iv).toNat)
            case atStart => exact ⟨0, by omega, rfl⟩
            case round =>
              obtain ⟨j, hj, rfl⟩ := hrel
              have hst := runN_step hj
              rw [List.drop_drop] at hst
              by_cases hjs : i + j < s.size
              · rw [drop_get s (i + j) hjs, runN_cons] at hst
                by_cases h10 : isLn s[i + j] = true
                · rw [if_pos h10] at hst
                  have d10 : ((s[i + j].toNat : Int) == 10) = false := by
                    rw [beq_eq_false_iff_ne]
                    simp [isLn] at h10
                    omega
                  clear h10
                  go_wp2
                  refine ⟨⟨j + 1, by omega, rfl⟩, ?_⟩
                  simp [intOf]
                  omega
                · rw [if_neg h10] at hst
                  have d10 : ((s[i + j].toNat : Int) == 10) = true := by
                    simp [isLn] at h10
                    rw [h10]
                    rfl
                  have HJR : Hid (j = runN isLn (s.data.toList.drop i)) := by show j = _; omega
                  clear h10 hst hj
                  go_wp2
                  refine ⟨⟨i + j, by omega, rfl, by rw [unhide HJR]; exact unhide HNX⟩, ?_⟩
                  have hj1 := unhide HJR
                  simp [intOf]
                  omega
              · have HJR : Hid (j = runN isLn (s.data.toList.drop i)) := by show j = _; omega
                have hje : i + j = s.size := by omega
                clear hj hst hjs
                go_wp2
                refine ⟨⟨i + j, by omega, rfl, by rw [unhide HJR]; exact unhide HNX⟩, ?_⟩
                have hj1 := unhide HJR
                simp [intOf]
                omega
          · have t1 : ((c.toNat : Int) == 47) = false := by
              have := unhide U2
              rw [show (47 : Int) = ((47 : UInt8).toNat : Int) from rfl, this]
              simpa using c1
            have p1 : pre2 47 47 (s.data.toList.drop i) = false := by rw [unhide HP1]; simpa using c1
            by_cases c2 : c = 42
            · have t2 : ((c.toNat : Int) == 42) = true := by rw [c2]; rfl
              have p2 : pre2 47 42 (s.data.toList.drop i) = true := by rw [unhide HP2, c2]; rfl
              have hpc : pieceP (s.data.toList.drop i) = comP (s.data.toList.drop i) := by
                unfold pieceP
                rw [if_neg (by rw [unhide HBF]; simp), if_neg (by rw [p1]; simp), if_pos p2]
              have h2l := pre2_len p2
              rw [List.length_drop, hl] at h2l
              have e2 : (s.data.toList.drop i).drop 2 = s.data.toList.drop (i + 2) := List.drop_drop
              obtain ⟨X, hX⟩ : ∃ X, Lib.index (s.data.toList.drop (i + 2)) [42, 47] = X := ⟨_, rfl⟩
              have HX := hide hX
              have hbad : X = -1 → skipTo s.data.toList i = i ∧ ok = false := fun h => by
                have hpp : pieceP (s.data.toList.drop i) = (-2, s.size - i) := by
                  rw [hpc]
                  unfold comP
                  rw [e2, hX, h, if_pos (by decide), List.length_drop, hl]
                have hne : s.data.toList.drop i ≠ [] := by
                  intro e
                  have := congrArg List.length e
                  rw [List.length_drop, List.length_nil] at this
                  omega
                have hsk : skipTo s.data.toList i = i := by
                  unfold skipTo
                  rw [skip_tok hne hpp (by decide)]
                  rfl
                refine ⟨hsk, ?_⟩
                rw [← unhide HOK, ← unhide HIE, hsk, hpp, p2]
                rfl
              have hgood : ¬ X = -1 → 0 ≤ X ∧ skipTo s.data.toList i = skipTo s.data.toList (i + (X.toNat + 4)) := fun h => by
                have hg := Lib.index_ge (s.data.toList.drop (i + 2)) [42, 47]
                rw [hX] at hg
                refine ⟨by omega, ?_⟩
                refine skipTo_gap hil ?_
                rw [hpc]
                unfold comP
                rw [e2, hX, if_neg (by omega)]
              have HBD := hide hbad
              have HGD := hide hgood
              have t0 := unhide T0
              clear hbad hgood p1 p2 hpc e2 hX HP1 HP2 HBF U1 U2 U3 c1 c2
              go_wp2_with (first | (go_at_call 54; refine (unhide HBL _).mono ?_; rintro e w1 ⟨rfl, rfl⟩) | (go_at_call 55; refine (unhide HAT _).mono ?_; rintro e w1 ⟨rfl, rfl⟩))
              go_loop [6] (fun kv => ∃ k : Nat, i + 2 ≤ k ∧ k ≤ s.size ∧ kv = .int .i64 k ∧ (X = -1 ↔ Lib.index (s.data.toList.drop k) [42, 47] = -1) ∧ (X ≠ -1 → X = ((k - (i + 2) : Nat) : Int) + Lib.index (s.data.toList.drop k) [42, 47])) (fun kv => s.size - (intOf kv).toNat)
              case atStart =>
                refine ⟨i + 2, by omega, by omega, by push_cast; rfl, by rw [unhide HX], fun _ => ?_⟩
                rw [unhide HX]
                omega
              case round =>
                obtain ⟨k, hk1, hk2, rfl, hk3, hk4⟩ := hrel
                by_cases hks : k + 1 < s.size
                · have hkl : k < s.data.toList.length := by omega
                  have hpk := pre2_drop s.data.toList k 42 47 hkl (by decide)
                  rw [atP_get s k (by omega), atP_get s (k + 1) hks] at hpk
                  have v1 := u8beq s[k] 42
                  have v2 := u8beq s[k + 1] 47
                  have v1' : ((s[k].toNat : Int) == 42) = (s[k] == 42) := v1
                  have v2' : ((s[k + 1].toNat : Int) == 47) = (s[k + 1] == 47) := v2
                  clear v1 v2
                  by_cases hit : pre2 42 47 (s.data.toList.drop k) = true
                  · have hi0 := index_hit s.data.toList k hkl hit
                    rw [hit] at hpk
                    have hpk2 := ((Bool.and_eq_true _ _).mp hpk.symm)
                    rw [hpk2.1] at v1'
                    rw [hpk2.2] at v2'
                    rw [hi0] at hk3 hk4
                    have hX1 : X ≠ -1 := fun h => by have := hk3.1 h; omega
                    have hX2 := hk4 hX1
                    obtain ⟨hX0, hgo⟩ := unhide HGD hX1
                    have HGO : Hid (skipTo s.data.toList (k + 2) = E) := by
                      show skipTo s.data.toList (k + 2) = E
                      rw [← unhide HIE, hgo]
                      congr 1
                      omega
                    have dk : decide ((s.size : Int) ≤ (k : Int) + 1) = false := by simp; omega
                    clear hk3 hk4 hX1 hX2 hX0 hgo hit hi0 hpk hpk2
                    go_wp2
                    refine ⟨⟨k + 2, by omega, rfl, unhide HGO⟩, ?_⟩
                    simp [intOf]
                    omega
                  · have hit' : pre2 42 47 (s.data.toList.drop k) = false := by simpa using hit
                    have hst := index_step s.data.toList k hkl hit'
                    rw [hit'] at hpk
                    have HREL : Hid ((X = -1 ↔ Lib.index (s.data.toList.drop (k + 1)) [42, 47] = -1) ∧ (X ≠ -1 → X = ((k + 1 - (i + 2) : Nat) : Int) + Lib.index (s.data.toList.drop (k + 1)) [42, 47])) := by
                      show _ ∧ _
                      rw [hst] at hk3 hk4
                      have hgx := Lib.index_ge (s.data.toList.drop (k + 1)) [42, 47]
                      by_cases hj : Lib.index (s.data.toList.drop (k + 1)) [42, 47] = -1
                      · rw [if_pos hj] at hk3 hk4
                        refine ⟨⟨fun _ => hj, fun _ => hk3.2 rfl⟩, fun hx => absurd (hk3.2 rfl) hx⟩
                      · rw [if_neg hj] at hk3 hk4
                        refine ⟨⟨fun hx => ?_, fun hx => absurd hx hj⟩, fun hx => ?_⟩
                        · have := hk3.1 hx
                          omega
                        · have := hk4 hx
                          omega
                    clear hk3 hk4 hst hit hit'
                    by_cases h42 : (s[k] == (42 : UInt8)) = true
                    · rw [h42] at v1' hpk
                      rw [Bool.true_and] at hpk
                      rw [← hpk] at v2'
                      clear hpk h42
                      go_wp2
                      refine ⟨⟨k + 1, by omega, by omega, rfl, (unhide HREL).1, (unhide HREL).2⟩, ?_⟩
                      simp [intOf]
                      omega
                    · rw [show (s[k] == (42 : UInt8)) = false by simpa using h42] at v1'
                      clear hpk h42 v2'
                      go_wp2
                      refine ⟨⟨k + 1, by omega, by omega, rfl, (unhide HREL).1, (unhide HREL).2⟩, ?_⟩
                      simp [intOf]
                      omega
                · have hix : Lib.index (s.data.toList.drop k) [42, 47] = -1 := index_short _ (by rw [List.length_drop]; omega)
                  obtain ⟨hsk, hokf⟩ := unhide HBD (hk3.2 hix)
                  have HEI : Hid (E = i) := by
                    show E = i
                    rw [← unhide HIE, hsk]
                  subst hokf
                  have dk : decide ((s.size : Int) ≤ (k : Int) + 1) = true := by simp; omega
                  have dl : decide ((k : Int) + 1 < (s.size : Int)) = false := by simp; omega
                  clear hk3 hk4 hix hsk HIE HOK
                  go_wp2
                  exact bodyPost_ret (v := .tuple #[.int .i64 (i : Int), .bool false]) (by simp [results, Tryd.results24, go_sem]) rfl ⟨by rw [unhide HEI], rfl⟩
            · have t2 : ((c.toNat : Int) == 42) = false := by
                have := unhide U3
                rw [show (42 : Int) = ((42 : UInt8).toNat : Int) from rfl, this]
                simpa using c2
              have p2 : pre2 47 42 (s.data.toList.drop i) = false := by rw [unhide HP2]; simpa using c2
              have t0 := unhide T0
              have hne : s.data.toList.drop i ≠ [] := by
                intro e
                have := congrArg List.length e
                rw [List.length_drop, List.length_nil] at this
                omega
              have hng : (pieceP (s.data.toList.drop i)).1 ≠ -1 := fun hcon => by
                obtain ⟨kk, zz, hpp⟩ : ∃ kk zz, pieceP (s.data.toList.drop i) = (kk, zz) := ⟨_, _, rfl⟩
                rw [hpp] at hcon
                simp only at hcon
                subst hcon
                rcases gap_cases hpp with ⟨g1, _⟩ | ⟨_, g1, _⟩ | ⟨_, _, g1, _⟩
                · rw [unhide HBF] at g1; cases g1
                · rw [p1] at g1; cases g1
                · rw [p2] at g1; cases g1
              have hsk : skipTo s.data.toList i = i := by
                obtain ⟨kk, zz, hpp⟩ : ∃ kk zz, pieceP (s.data.toList.drop i) = (kk, zz) := ⟨_, _, rfl⟩
                rw [hpp] at hng
                unfold skipTo
                rw [skip_tok hne hpp hng]
                rfl
              have HEI : Hid (E = i) := by
                show E = i
                rw [← unhide HIE, hsk]
              have hok1 : ok = true := by
                rw [← unhide HOK, unhide HEI, p2, Bool.and_false]
                rfl
              subst hok1
              clear hsk hng hne p1 p2 HP1 HP2 HBF U1 U2 U3 HIE HOK
              go_wp2_with (first | (go_at_call 54; refine (unhide HBL _).mono ?_; rintro e w1 ⟨rfl, rfl⟩) | (go_at_call 55; refine (unhide HAT _).mono ?_; rintro e w1 ⟨rfl, rfl⟩))
              exact bodyPost_ret (v := .tuple #[.int .i64 (i : Int), .bool true]) (by simp [results, Tryd.results24, go_sem]) rfl ⟨by rw [unhide HEI], rfl⟩
        · have b0 : (s[i] == (47 : UInt8)) = false := by simpa using c0
          have t0 : ((s[i].toNat : Int) == 47) = false := by
            have := unhide U1
            rw [show (47 : Int) = ((47 : UInt8).toNat : Int) from rfl, this]
            exact b0
          have p1 : pre2 47 47 (s.data.toList.drop i) = false := by rw [unhide HP1, b0]; rfl
          have p2 : pre2 47 42 (s.data.toList.drop i) = false := by rw [unhide HP2, b0]; rfl
          clear c0 b0
          have hne : s.data.toList.drop i ≠ [] := by
            intro e
            have := congrArg List.length e
            rw [List.length_drop, List.length_nil] at this
            omega
          have hng : (pieceP (s.data.toList.drop i)).1 ≠ -1 := fun hcon => by
            obtain ⟨kk, zz, hpp⟩ : ∃ kk zz, pieceP (s.data.toList.drop i) = (kk, zz) := ⟨_, _, rfl⟩
            rw [hpp] at hcon
            simp only at hcon
            subst hcon
            rcases gap_cases hpp with ⟨g1, _⟩ | ⟨_, g1, _⟩ | ⟨_, _, g1, _⟩
            · rw [unhide HBF] at g1; cases g1
            · rw [p1] at g1; cases g1
            · rw [p2] at g1; cases g1
          have hsk : skipTo s.data.toList i = i := by
            obtain ⟨kk, zz, hpp⟩ : ∃ kk zz, pieceP (s.data.toList.drop i) = (kk, zz) := ⟨_, _, rfl⟩
            rw [hpp] at hng
            unfold skipTo
            rw [skip_tok hne hpp hng]
            rfl
          have HEI : Hid (E = i) := by
            show E = i
            rw [← unhide HIE, hsk]
          have hok1 : ok = true := by
            rw [← unhide HOK, unhide HEI, p2, Bool.and_false]
            rfl
          subst hok1
          clear hsk hng hne p1 p2 HP1 HP2 HBF U1 U2 U3 HIE HOK
          go_wp2_with (first | (go_at_call 54; refine (unhide HBL _).mono ?_; rintro e w1 ⟨rfl, rfl⟩) | (go_at_call 55; refine (unhide HAT _).mono ?_; rintro e w1 ⟨rfl, rfl⟩))
          exact bodyPost_ret (v := .tuple #[.int .i64 (i : Int), .bool true]) (by simp [results, Tryd.results24, go_sem]) rfl ⟨by rw [unhide HEI], rfl⟩
    · have hie : i = s.size := by omega
      have hsk : skipTo s.data.toList i = i := by
        unfold skipTo
        rw [List.drop_of_length_le (by omega), skip_nil]
        rfl
      have HEI : Hid (E = s.size) := by
        show E = s.size
        rw [← unhide HIE, hsk, hie]
      have hok1 : ok = true := by
        rw [← unhide HOK, unhide HEI, List.drop_of_length_le (by omega)]
        rfl
      subst hok1
      clear hsk HIE HOK
      go_wp2
      exact bodyPost_ret (v := .tuple #[.int .i64 (s.size : Int), .bool true]) (by simp [results, Tryd.results24, go_sem]) rfl ⟨by rw [unhide HEI], rfl⟩
end Go.Proofs.YtdcamcpffiilbaaDoor

/-
  The document's Kept.
-/
namespace Go.Proofs.YtdcamcpffiilbaaDoor
open Go.RowKit
set_option linter.unusedVariables false
set_option linter.unusedSimpArgs false

/-- A word that is not everybody's. -/
def keptP (t : Byts8) : Bool := Lib.hasPrefix t [71, 76, 95] || Lib.contains t [95, 95]
theorem con_step (l : Byts8) (k : Nat) (hk : k < l.length) : Lib.contains (l.drop k) [95, 95] = (pre2 95 95 (l.drop k) || Lib.contains (l.drop (k + 1)) [95, 95]) := by
  unfold Lib.contains pre2 Lib.hasPrefix
  rw [List.drop_eq_getElem_cons hk, Lib.index]
  have hg := Lib.index_ge (l.drop (k + 1)) [95, 95]
  by_cases h : ([95, 95] : Byts8).isPrefixOf (l[k] :: l.drop (k + 1)) = true
  · rw [if_pos h, h]
    rfl
  · rw [if_neg h, Bool.eq_false_iff.2 h, Bool.false_or]
    by_cases h2 : Lib.index (l.drop (k + 1)) [95, 95] = -1
    · rw [h2]
      rfl
    · rw [if_neg (by simpa using h2), Bool.eq_iff_iff]
      simp
      omega
theorem con_short (l : Byts8) (h : l.length ≤ 1) : Lib.contains l [95, 95] = false := by
  rcases l with _ | ⟨a, _ | ⟨b, r⟩⟩
  · rfl
  · simp [Lib.contains, Lib.index, List.isPrefixOf]
  · simp at h

theorem ext3 (s : ByteArray) (h : 3 ≤ s.size) : (s.extract 0 3).toList = s.data.toList.take 3 := by
  rw [Lib.extract_toList, List.drop_zero]

set_option maxHeartbeats 2000000 in
set_option maxRecDepth 100000 in
theorem refKept_any (s : ByteArray) (w : World) (hs : s.size ≤ 8192) :
    Calls Tryd.prog 28 #[.string s] w fun e w' => e = .returned (.bool (keptP s.data.toList)) ∧ w' = w := by
  have hl := list_size s
  by_cases hg : Lib.hasPrefix s.data.toList [71, 76, 95] = true
  · have hk : keptP s.data.toList = true := by unfold keptP; rw [hg]; rfl
    have h2 : s.data.toList.take 3 = [71, 76, 95] := by
      unfold Lib.hasPrefix at hg
      exact (List.prefix_iff_eq_take.1 (List.isPrefixOf_iff_prefix.1 hg)).symm
    have h3 : 3 ≤ s.size := by
      have := congrArg List.length h2
      rw [List.length_take] at this
      simp at this
      simp
      omega
    have q : ((s.extract 0 3).toList == [71, 76, 95]) = true := by rw [ext3 s h3, h2]; rfl
    rw [hk]
    clear hk h2 hg
    go_enter Tryd.func28, Tryd.ntmps28
    go_wp2
    go_ret
    exact ⟨rfl, rfl⟩
  · have hk : keptP s.data.toList = Lib.contains s.data.toList [95, 95] := by unfold keptP; rw [Bool.eq_false_iff.2 hg]; rfl
    have q : 3 ≤ s.size → ((s.extract 0 3).toList == [71, 76, 95]) = false := fun h3 => by
      rw [ext3 s h3]
      refine beq_eq_false_iff_ne.2 (fun e => hg ?_)
      unfold Lib.hasPrefix
      rw [List.isPrefixOf_iff_prefix, List.prefix_iff_eq_take]
      exact e.symm
    obtain ⟨R, hR⟩ : ∃ R, Lib.contains s.data.toList [95, 95] = R := ⟨_, rfl⟩
    rw [hk, hR]
    have HR := hide hR
    have HQ := hide q
    clear hR hk hg q
    go_enter Tryd.func28, Tryd.ntmps28
    by_cases h3 : 3 ≤ s.size
    · have q := unhide HQ h3
      go_wp2
      go_loop [3] (fun iv => ∃ k : Nat, k ≤ s.size ∧ iv = .int .i64 k ∧ Lib.contains (s.data.toList.drop k) [95, 95] = R) (fun iv => s.size - (intOf iv).toNat)
      case atStart => exact ⟨0, by omega, rfl, unhide HR⟩
      case round =>
        obtain ⟨k, hk, rfl, hc⟩ := hrel
        by_cases h1 : k + 1 < s.size
        · have hkl : k < s.data.toList.length := by omega
          have hst := con_step s.data.toList k hkl
          have hp := pre2_drop s.data.toList k 95 95 hkl (by decide)
          rw [atP_get s k (by omega), atP_get s (k + 1) h1] at hp
          have v1 : ((s[k].toNat : Int) == 95) = (s[k] == 95) := u8beq s[k] 95
          have v2 : ((s[k + 1].toNat : Int) == 95) = (s[k + 1] == 95) := u8beq s[k + 1] 95
          rw [hc, hp] at hst
          have HST := hide hst
          clear hc hp hst
          cases hb : (s[k] == (95 : UInt8)) with
          | false =>
            rw [hb] at v1 HST
            have hc2 := (unhide HST).symm
            rw [Bool.false_and, Bool.false_or] at hc2
            have HC := hide hc2
            clear hc2 HST hb v2
            go_wp2
            refine ⟨⟨k + 1, by omega, rfl, unhide HC⟩, ?_⟩
            simp [intOf]
            omega
          | true =>
            rw [hb] at v1 HST
            cases hb2 : (s[k + 1] == (95 : UInt8)) with
            | false =>
              rw [hb2] at v2 HST
              have hc2 := (unhide HST).symm
              rw [Bool.true_and, Bool.false_or] at hc2
              have HC := hide hc2
              clear hc2 HST hb hb2
              go_wp2
              refine ⟨⟨k + 1, by omega, rfl, unhide HC⟩, ?_⟩
              simp [intOf]
              omega
            | true =>
              rw [hb2] at v2 HST
              have hr1 : R = true := unhide HST
              subst hr1
              clear HST hb hb2
              go_wp2
              go_ret
              exact ⟨rfl, rfl⟩
        · have hr1 : R = false := by rw [← hc]; exact con_short _ (by rw [List.length_drop]; omega)
          subst hr1
          clear hc
          go_wp2
          go_ret
          exact ⟨rfl, rfl⟩
    · go_wp2
      go_loop [3] (fun iv => ∃ k : Nat, k ≤ s.size ∧ iv = .int .i64 k ∧ Lib.contains (s.data.toList.drop k) [95, 95] = R) (fun iv => s.size - (intOf iv).toNat)
      case atStart => exact ⟨0, by omega, rfl, unhide HR⟩
      case round =>
        obtain ⟨k, hk, rfl, hc⟩ := hrel
        by_cases h1 : k + 1 < s.size
        · have hkl : k < s.data.toList.length := by omega
          have hst := con_step s.data.toList k hkl
          have hp := pre2_drop s.data.toList k 95 95 hkl (by decide)
          rw [atP_get s k (by omega), atP_get s (k + 1) h1] at hp
          have v1 : ((s[k].toNat : Int) == 95) = (s[k] == 95) := u8beq s[k] 95
          have v2 : ((s[k + 1].toNat : Int) == 95) = (s[k + 1] == 95) := u8beq s[k + 1] 95
          rw [hc, hp] at hst
          have HST := hide hst
          clear hc hp hst
          cases hb : (s[k] == (95 : UInt8)) with
          | false =>
            rw [hb] at v1 HST
            have hc2 := (unhide HST).symm
            rw [Bool.false_and, Bool.false_or] at hc2
            have HC := hide hc2
            clear hc2 HST hb v2
            go_wp2
            refine ⟨⟨k + 1, by omega, rfl, unhide HC⟩, ?_⟩
            simp [intOf]
            omega
          | true =>
            rw [hb] at v1 HST
            cases hb2 : (s[k + 1] == (95 : UInt8)) with
            | false =>
              rw [hb2] at v2 HST
              have hc2 := (unhide HST).symm
              rw [Bool.true_and, Bool.false_or] at hc2
              have HC := hide hc2
              clear hc2 HST hb hb2
              go_wp2
              refine ⟨⟨k + 1, by omega, rfl, unhide HC⟩, ?_⟩
              simp [intOf]
              omega
            | true =>
              rw [hb2] at v2 HST
              have hr1 : R = true := unhide HST
              subst hr1
              clear HST hb hb2
              go_wp2
              go_ret
              exact ⟨rfl, rfl⟩
        · have hr1 : R = false := by rw [← hc]; exact con_short _ (by rw [List.length_drop]; omega)
          subst hr1
          clear hc
          go_wp2
          go_ret
          exact ⟨rfl, rfl⟩
end Go.Proofs.YtdcamcpffiilbaaDoor

/-
  A word that may be defined, and is: plain.
-/
namespace Go.Proofs.YtdcamcpffiilbaaDoor
set_option linter.unusedVariables false
set_option linter.unusedSimpArgs false

theorem runN_whole {p : UInt8 → Bool} : ∀ {l : Byts8}, runN p l = l.length → ∀ b ∈ l, p b = true
  | [], _, b, hb => by cases hb
  | c :: l, h, b, hb => by
    rw [runN] at h
    split at h
    · rename_i hc
      have ih := runN_whole (p := p) (l := l) (by simpa using h)
      rcases List.mem_cons.1 hb with rfl | hb
      · exact hc
      · exact ih b hb
    · simp at h
theorem piece_word {l : Byts8} {z : Nat} (h : pieceP l = (1, z)) : z = runN isWd l := by
  unfold pieceP at h
  split at h
  · cases h
  split at h
  · cases h
  split at h
  · unfold comP at h
    split at h <;> cases h
  split at h
  · exact (Prod.mk.inj h).2.symm
  split at h
  · have := numP_kind l
    rw [h] at this
    simp at this
  · have := signP_kind l
    rw [h] at this
    simp at this
theorem word_lex {t : Byts8} (h : isWordL (lexP t).1 = true) (ht : ((hd0 (lexP t).1).text == t) = true) : lexA t 0 0 0 = ([⟨1, t, 0, 0, 0⟩], 0, 0) ∧ (∀ b ∈ t, isWd b = true) ∧ t.length ≤ 32 := by
  have hle : ¬ 8192 < t.length := fun hl => by
    unfold lexP at h
    rw [if_pos hl] at h
    cases h
  have hq : lexP t = lexA t 0 0 0 := by unfold lexP; rw [if_neg hle]
  rw [hq] at h ht
  have hf := lexA_form t 0 0 0
  obtain ⟨r, hr⟩ : ∃ r : List Tok × Int × Int, lexA t 0 0 0 = r := ⟨_, rfl⟩
  obtain ⟨L, e, p⟩ := r
  rw [hr] at h ht hf
  simp only at h ht hf
  have he : e = 0 := Classical.byContradiction fun hc => by
    rw [hf.2 hc] at h
    cases h
  have hp : p = 0 := hf.1 he
  subst he hp
  have hne : L ≠ [] := fun hc => by rw [hc] at h; cases h
  obtain ⟨k, z, x, l2, tm, ts', ln2, h1, h2, h3, h4, h5, h6, h7, h8, h9, _, _⟩ := lex_first hr hne
  subst h9
  have hts : ts' = [] := by
    cases ts' with
    | nil => rfl
    | cons a b => cases h
  subst hts
  have hk : k = 1 := by simpa [isWordL] using h
  have hx : x = t := by simpa [hd0] using ht
  subst hk hx
  have hsk := skip_le x
  have hlen := congrArg List.length h1
  rw [List.length_drop, List.length_append] at hlen
  have hl2 : l2 = [] := List.length_eq_zero_iff.1 (by omega)
  have hs0 : skipN x = 0 := by omega
  subst hl2
  rw [List.append_nil] at h4
  have hw := piece_word h4
  have htm : tm = 0 ∧ x.length ≤ 32 := by
    rw [h8]
    unfold tellP at h7 ⊢
    split at h7
    · cases h7
    rename_i c1
    rw [if_neg c1]
    split at h7
    · cases h7
    rename_i c2
    rw [if_neg c2]
    unfold measP at h7 ⊢
    rw [if_pos rfl] at h7 ⊢
    split at h7
    · cases h7
    rename_i c3
    rw [if_neg c3]
    exact ⟨rfl, by omega⟩
  obtain ⟨rfl, h32⟩ := htm
  refine ⟨?_, runN_whole (by omega), h32⟩
  rw [hr, hs0]
  simp [cntL, Lib.countByte]
theorem no_sl2 {a : Byts8} (h : ∀ b ∈ a, b ≠ 47) : ∀ i, pre2 47 47 (a.drop i) = false := no_sl (fun i hi => by
  rw [List.drop_eq_getElem_cons hi]
  have h1 := h a[i] (List.getElem_mem hi)
  cases hd : a.drop (i + 1) with
  | nil => exact pre2_one _ _ _
  | cons c r =>
    rw [pre2_cons]
    rw [show ((47 : UInt8) == a[i]) = false from beq_eq_false_iff_ne.2 (fun e => h1 e.symm)]
    rfl)
def defT : Byts8 := [35, 100, 101, 102, 105, 110, 101]
theorem lex_defT : lexA defT 0 0 0 = ([⟨4, [35], 0, 0, 0⟩, ⟨1, tDefine, 0, 1, 0⟩], 0, 0) := by
  rw [lexA_fuel 7 _ _ _ _ (by decide)]
  kernel_rfl
theorem lex_seven : lexA [55] 0 0 0 = ([⟨2, [55], 458752, 0, 0⟩], 0, 0) := by
  rw [lexA_fuel 1 _ _ _ _ (by decide)]
  kernel_rfl
theorem fresh_parts {t : Byts8} (hf : freshP t = true) : isWordL (lexP t).1 = true ∧ ((hd0 (lexP t).1).text == t) = true ∧ Lib.hasPrefix t [71, 76, 95] = false ∧ Lib.contains t [95, 95] = false := by
  unfold freshP at hf
  simp only [Bool.and_eq_true, Bool.not_eq_true'] at hf
  exact ⟨hf.1.1.1, hf.1.1.2, hf.1.2, hf.2⟩
/-- What PreFresh's text is told as. -/
theorem fresh_run {t : Byts8} (hf : freshP t = true) : ∃ n pl ln, runP (defT ++ 32 :: (t ++ 32 :: ([55] ++ 10 :: t))) = ([⟨2, [55], n, pl, ln⟩], 0, 0) := by
  obtain ⟨f1, f2, f3, f4⟩ := fresh_parts hf
  obtain ⟨hlx, hwd, hl32⟩ := word_lex f1 f2
  have h47 : ∀ b ∈ t, b ≠ 47 := fun b hb e => by
    have := hwd b hb
    subst e
    revert this
    decide
  have n1 : t ≠ wGles := fun e => by rw [e] at f3; revert f3; decide
  have n2 : t ≠ wVers := fun e => by rw [e] at f4; revert f4; decide
  have n3 : t ≠ wLine := fun e => by rw [e] at f4; revert f4; decide
  have n4 : t ≠ [35] := fun e => by
    have := hwd 35 (by rw [e]; simp)
    revert this
    decide
  have n5 : [55] ≠ t := fun e => by
    rw [← e, lex_seven] at hlx
    simp at hlx
  have hb0 : beginE t = none := by unfold beginE setE; rw [if_neg n2, if_neg n1]
  obtain ⟨A1, hA1⟩ : ∃ A1, A1 = defT ++ 32 :: t := ⟨_, rfl⟩
  obtain ⟨A2, hA2⟩ : ∃ A2, A2 = A1 ++ 32 :: [55] := ⟨_, rfl⟩
  have htext : defT ++ 32 :: (t ++ 32 :: ([55] ++ 10 :: t)) = A2 ++ 10 :: t := by rw [hA2, hA1]; simp
  have hA1l : A1.length = 8 + t.length := by rw [hA1]; simp [defT]; omega
  have hA2l : A2.length = 10 + t.length := by rw [hA2, List.length_append, hA1l]; simp; omega
  have hs1 : ∀ b ∈ A1, b ≠ 47 := fun b hb => by
    rw [hA1] at hb
    rcases List.mem_append.1 hb with hb | hb
    · exact (by decide : ∀ b ∈ defT, b ≠ 47) b hb
    · rcases List.mem_cons.1 hb with rfl | hb
      · decide
      · exact h47 b hb
  have m1 := lexA_move t.length t 0 0 0 _ (Nat.le_refl _) hlx 8 0 2 (by simp)
  have L1 : lexA A1 0 0 0 = ([⟨4, [35], 0, 0, 0⟩, ⟨1, tDefine, 0, 1, 0⟩, ⟨1, t, 0, 8, 0⟩], 0, 0) := by
    rw [hA1, lex_bl (by decide) t 7 defT 0 0 0 _ (by decide) (Or.inr (no_sl (by decide))) lex_defT]
    have e : lexA (32 :: t) ((0 : Int) + (defT.length : Nat)) ((0 : Int) + (cntL defT : Nat)) (0 + [(⟨4, [35], 0, 0, 0⟩ : Tok), ⟨1, tDefine, 0, 1, 0⟩].length) = ([⟨1, t, 0, 8, 0⟩], 0, 0) := by
      rw [lexA_one (by decide)]
      exact m1
    rw [e]
    simp
  have m2 := lexA_move 1 [55] 0 0 0 _ (by simp) lex_seven (A1.length + 1) (cntL A1) 3 (by simp)
  have L2 : lexA A2 0 0 0 = ([⟨4, [35], 0, 0, 0⟩, ⟨1, tDefine, 0, 1, 0⟩, ⟨1, t, 0, 8, 0⟩, ⟨2, [55], 458752, (A1.length : Int) + 1, (cntL A1 : Int)⟩], 0, 0) := by
    rw [hA2, lex_bl (by decide) [55] A1.length A1 0 0 0 _ (Nat.le_refl _) (Or.inr (no_sl2 hs1)) L1]
    have e : lexA (32 :: [55]) ((0 : Int) + (A1.length : Nat)) ((0 : Int) + (cntL A1 : Nat)) (0 + [(⟨4, [35], 0, 0, 0⟩ : Tok), ⟨1, tDefine, 0, 1, 0⟩, ⟨1, t, 0, 8, 0⟩].length) = ([⟨2, [55], 458752, (A1.length : Int) + 1, (cntL A1 : Int)⟩], 0, 0) := by
      rw [lexA_one (by decide)]
      have e2 : (0 : Int) + (A1.length : Nat) + 1 = 0 + ((A1.length : Int) + 1) := by omega
      have e3 : (0 : Int) + (cntL A1 : Nat) + (cntL [(32 : UInt8)] : Nat) = 0 + (cntL A1 : Int) := by simp [cntL, Lib.countByte]
      rw [e2, e3]
      have m := m2
      simp only [List.map_cons, List.map_nil, mvT, Int.zero_add] at m
      rw [Int.zero_add, Int.zero_add]
      exact m
    rw [e]
    simp
  have hc1 : cntL A1 = 0 := by
    unfold cntL Lib.countByte
    rw [List.count_eq_zero]
    intro hm
    rw [hA1] at hm
    rcases List.mem_append.1 hm with hm | hm
    · revert hm
      decide
    · rcases List.mem_cons.1 hm with hm | hm
      · revert hm
        decide
      · have := hwd 10 hm
        revert this
        decide
  rw [hc1] at L2
  obtain ⟨T4, hT4⟩ : ∃ T4 : List Tok, T4 = [⟨4, [35], 0, 0, 0⟩, ⟨1, tDefine, 0, 1, 0⟩, ⟨1, t, 0, 8, 0⟩, ⟨2, [55], 458752, (A1.length : Int) + 1, 0⟩] := ⟨_, rfl⟩
  have L2' : lexA A2 0 0 0 = (T4, 0, 0) := by rw [hT4]; exact L2
  have m3 := lexA_move t.length t 0 0 0 _ (Nat.le_refl _) hlx (A2.length + 1) (cntL A2 + 1) 4 (by simp)
  obtain ⟨u, hu⟩ : ∃ u : Tok, u = ⟨1, t, 0, (A2.length : Int) + 1, (cntL A2 : Int) + 1⟩ := ⟨_, rfl⟩
  have L3 : lexA (A2 ++ 10 :: t) 0 0 0 = (T4 ++ [u], 0, 0) := by
    rw [lex_bl (by decide) t A2.length A2 0 0 0 _ (Nat.le_refl _) (Or.inl rfl) L2']
    have e : lexA (10 :: t) ((0 : Int) + (A2.length : Nat)) ((0 : Int) + (cntL A2 : Nat)) (0 + T4.length) = ([u], 0, 0) := by
      rw [lexA_one (by decide)]
      have e3 : (cntL [(10 : UInt8)] : Int) = 1 := by simp [cntL, Lib.countByte]
      have e4 : 0 + T4.length = 4 := by rw [hT4]; rfl
      have m := m3
      simp only [List.map_cons, List.map_nil, mvT, Int.zero_add] at m
      rw [e3, e4, Int.zero_add, Int.zero_add, hu]
      exact m
    rw [e]
    simp
  have hl0 : ∀ x ∈ T4, x.line = 0 := fun x hx => by
    rw [hT4] at hx
    simp only [List.mem_cons, List.not_mem_nil, or_false] at hx
    rcases hx with rfl | rfl | rfl | rfl <;> rfl
  have hls : linesP (T4 ++ [u]) = [T4, [u]] := by
    rw [lines_app _ _ (fun x hx y hy => by
      rw [hl0 x hx]
      rw [List.mem_singleton] at hy
      rw [hy, hu]
      simp only
      omega), lines_one 0 _ (by rw [hT4]; simp) hl0]
    rfl
  have hrd := read_def (L := [⟨2, [55], 458752, (A1.length : Int) + 1, 0⟩]) (NT := [u]) hf hb0 n3 (t0 := ⟨4, [35], 0, 0, 0⟩) (t1 := ⟨1, tDefine, 0, 1, 0⟩) (t2 := ⟨1, t, 0, 8, 0⟩) rfl rfl rfl n4
    (fun y hy => by rw [List.mem_singleton] at hy; rw [hy, hu]) (fun y hy => by rw [List.mem_singleton] at hy; rw [hy]; exact ⟨by simp [plainT, wGles, wLine, wVers], n5⟩) (by simp) [[u]] (Or.inr ⟨rfl, by simp⟩)
  rw [htext]
  unfold runP
  have hP : lexP (A2 ++ 10 :: t) = (T4 ++ [u], 0, 0) := by
    unfold lexP
    rw [if_neg (by rw [List.length_append, List.length_cons]; omega), L3]
  rw [hP]
  simp only
  rw [if_neg (by simp), hls, hT4, hrd]
  refine ⟨458752, u.place, u.line, ?_⟩
  simp [atT]
end Go.Proofs.YtdcamcpffiilbaaDoor

/-
  The law's same and plain. What the dump lacks is left out.
-/
namespace Go.Proofs.YtdcamcpffiilbaaDoor
open Go.RowKit
set_option linter.unusedSimpArgs false
set_option linter.unusedVariables false

set_option maxHeartbeats 2000000 in
set_option maxRecDepth 100000 in
theorem same11 (A : List Tok) (ao bo : Option Addr) (ca cb : Nat) (w : World) (hA : TR w (.slice ao A.length ca) A) (hB : TR w (.slice bo A.length cb) A) :
    Calls Tryd.prog 7 #[.slice ao A.length ca, .slice bo A.length cb] w fun e w' => e = .returned (.bool true) ∧ Ext w w' := by
  have HA := hide hA
  have HB := hide hB
  have hbig : A.length ≤ 9223372036854775807 := by
    obtain ⟨_, _, _, _, h1, h2, _⟩ := hA
    unfold maxLen at h2
    omega
  clear hA hB
  have hl' : (!((A.length : Int) == (A.length : Int))) = false := by simp
  go_enter Tryd.func7, Tryd.ntmps7
  go_wp2
  go_loopw [13] (fun iv wr => ∃ k : Nat, k ≤ A.length ∧ iv = .int .i64 k ∧ Ext w wr) (fun iv _ => A.length - (intOf iv).toNat)
  case atStart => exact ⟨0, by omega, rfl, Ext.refl _⟩
  case round =>
    obtain ⟨k, hk, rfl, hx⟩ := hrel
    have X := hide hx
    clear hx
    by_cases hlt : k < A.length
    · obtain ⟨b1, o1, rfl, h1⟩ := ((unhide HA).ext (unhide X)).at k hlt
      obtain ⟨b2, o2, rfl, h2⟩ := ((unhide HB).ext (unhide X)).at k hlt
      have c0 := h1.kind; have c1 := h1.text; have c2 := h1.num; have c3 := h1.place; have c4 := h1.line
      have d0 := h2.kind; have d1 := h2.text; have d2 := h2.num; have d3 := h2.place; have d4 := h2.line
      clear h1 h2
      generalize A[k] = x at *
      have q1 : IntKind.i64.wrap (k : Int) = k := by simp [IntKind.wrap, IntKind.bits, IntKind.signed] <;> omega
      go_wp2
      go_quiet (fail)
      go_wp2
      refine ⟨⟨k + 1, by omega, rfl, (unhide X).drewN _⟩, ?_⟩
      simp [intOf]
      omega
    · go_wp2
      go_ret
      exact ⟨rfl, unhide X⟩

end Go.Proofs.YtdcamcpffiilbaaDoor
