/-
  A text that says nothing here is told as lex tells it: plain.
-/
import Derived.Test.YtinnikggaflpdaaDoorZZ
namespace Go.Proofs.YtinnikggaflpdaaDoor
set_option linter.unusedVariables false
set_option linter.unusedSimpArgs false

/-- A token that says nothing here. -/
def plainT (t : Tok) : Bool := !(t.text == [35]) && !(t.text == wGles) && !(t.text == wLine) && !(t.text == wVers)
/-- Words that stand for something at first, and no others. -/
def EnvFirst (E : Env) : Prop := ∀ k, k ≠ wGles → k ≠ wLine → k ≠ wVers → E k = none
theorem begin_first : EnvFirst beginE := fun k h1 h2 h3 => by
  unfold beginE setE
  rw [if_neg h3, if_neg h1]
theorem EnvFirst.line {E : Env} (h : EnvFirst E) (v : Option (List Tok)) : EnvFirst (setE E wLine v) := fun k h1 h2 h3 => by
  unfold setE
  rw [if_neg h2]
  exact h k h1 h2 h3
theorem plainT_parts {t : Tok} (h : plainT t = true) : t.text ≠ [35] ∧ t.text ≠ wGles ∧ t.text ≠ wLine ∧ t.text ≠ wVers := by
  unfold plainT at h
  simpa [and_assoc] using h
theorem exp_stay0 {E : Env} {t : Tok} (h : E t.text = none) (f : Nat) : expT E t.place t.line f [] t 0 = some ([t], 0) := by
  have h2 : (([] : List Byts8).contains t.text || (E t.text).isNone) = true := by rw [h]; rfl
  cases f with
  | zero => unfold expT; rw [if_pos h2]
  | succ f => unfold expT; rw [if_pos h2]
theorem told_plain {E : Env} (hE : EnvFirst E) {t : Tok} (ht : plainT t = true) (tl : List Tok) (hl : tl.length + 1 ≤ 2048) : toldP E tl t = some (tl ++ [t]) := by
  obtain ⟨_, h1, h2, h3⟩ := plainT_parts ht
  unfold toldP
  rw [exp_stay0 (hE _ h1 h2 h3)]
  simp only [List.length_cons, List.length_nil]
  rw [if_pos (by omega)]
theorem line_plain {E : Env} (hE : EnvFirst E) : ∀ (l tl : List Tok), (∀ t ∈ l, plainT t = true) → tl.length + l.length ≤ 2048 → lineP E tl l = (tl ++ l, 0, 0)
  | [], tl, _, _ => by rw [List.append_nil]; rfl
  | t :: l, tl, h, hl => by
    simp only [List.length_cons] at hl
    rw [lineP, told_plain hE (h t (by simp)) tl (by omega)]
    simp only
    rw [line_plain hE l (tl ++ [t]) (fun u hu => h u (by simp [hu])) (by simp; omega)]
    simp
theorem read_plain : ∀ (ls : List (List Tok)) (first : Bool) (E : Env) (tl : List Tok), EnvFirst E → (∀ l ∈ ls, l ≠ [] ∧ ∀ t ∈ l, plainT t = true) → tl.length + ls.flatten.length ≤ 2048 → readP first E [] tl ls = ((tl ++ ls.flatten, []), 0, 0)
  | [], _, _, tl, _, _, _ => by simp [readP]
  | l :: ls, first, E, tl, hE, h, hl => by
    simp only [List.flatten_cons, List.length_append] at hl
    obtain ⟨hne, hp⟩ := h l (by simp)
    have h35 : ¬ (hd0 l).text = [35] := by
      cases l with
      | nil => exact absurd rfl hne
      | cons t r => exact (plainT_parts (hp t (by simp))).1
    rw [readP, if_neg h35, if_neg (by decide), line_plain (hE.line _) l tl hp (by omega)]
    simp only
    rw [if_neg (by simp), read_plain ls false _ (tl ++ l) (hE.line _) (fun x hx => h x (by simp [hx])) (by rw [List.length_append]; omega)]
    simp
theorem lines_flat : ∀ X, (linesP X).flatten = X
  | [] => rfl
  | t :: X => by
    have ih := lines_flat X
    rw [linesP_cons]
    cases h : linesP X with
    | nil =>
      rw [h] at ih
      simp at ih
      subst ih
      rfl
    | cons r rs =>
      rw [h] at ih
      by_cases hu : t.line = (hd0 r).line
      · rw [linesC_pos _ hu]
        simp at ih ⊢
        exact ih
      · rw [linesC_neg _ hu]
        simp at ih ⊢
        exact ih
theorem tell_2048 (k : Int) (t b : Byts8) : (tellP k t b 2048).2 ≠ 0 := by
  unfold tellP
  split
  · decide
  · rw [if_pos rfl]; decide
theorem lexA_count (l : Byts8) : ∀ (a ln : Int) (n : Nat), n ≤ 2048 → (lexA l a ln n).2.1 = 0 → n + (lexA l a ln n).1.length ≤ 2048 := by
  induction hn : l.length using Nat.strongRecOn generalizing l with
  | _ m ih =>
    intro a ln n hle h0
    by_cases h : l = []
    · subst h
      rw [lexA_nil]
      simpa using hle
    have hr := piece_room l h
    obtain ⟨k, z, hp⟩ : ∃ k z, pieceP l = (k, z) := ⟨_, _, rfl⟩
    rw [hp] at hr
    simp only at hr
    have hd : (l.drop z).length < m := by rw [List.length_drop]; omega
    by_cases hk : k = -1
    · subst hk
      rw [lexA_gap h hp] at h0 ⊢
      exact ih _ hd _ rfl _ _ _ hle h0
    · by_cases ht : (tellP k (l.take z) (l.drop z) n).2 = 0
      · have hn2 : n ≠ 2048 := fun e => by rw [e] at ht; exact tell_2048 _ _ _ ht
        rw [lexA_tok h hp hk a ln n ht] at h0 ⊢
        split at h0
        · rename_i h1
          exact absurd h0 h1
        · rename_i h1
          rw [if_neg h1]
          have := ih _ hd _ rfl (a + z) (ln + cntL (l.take z)) (n + 1) (by omega) (by simpa using h1)
          simp only [List.length_cons]
          omega
      · rw [lexA_bad h hp hk a ln n ht] at h0
        exact absurd h0 ht
/-- A text that says nothing here is told as lex tells it. -/
theorem run_plain (s : Byts8) (h0 : (lexP s).2.1 = 0) (hp : ∀ t ∈ (lexP s).1, plainT t = true) : runP s = lexP s := by
  have hsm : lexP s = lexA s 0 0 0 := by
    unfold lexP at h0 ⊢
    split at h0
    · cases h0
    · rename_i h
      rw [if_neg h]
  have hc : (lexP s).1.length ≤ 2048 := by
    rw [hsm] at h0 ⊢
    have := lexA_count s 0 0 0 (by omega) h0
    omega
  have hf : (lexP s).2.2 = 0 := by
    rw [hsm] at h0 ⊢
    exact (lexA_form s 0 0 0).1 h0
  have hok := (lines_ok (lexP s).1 (by omega) (lexP_ok s).2).1
  have hr : readP true beginE [] [] (linesP (lexP s).1) = (((lexP s).1, []), 0, 0) := by
    have := read_plain (linesP (lexP s).1) true beginE [] begin_first (fun l hl => ⟨(hok l hl).1, fun t ht => hp t ?_⟩) (by rw [lines_flat]; simpa using hc)
    · rw [this, lines_flat]
      rfl
    · rw [← lines_flat (lexP s).1]
      exact List.mem_flatten.2 ⟨l, hl, ht⟩
  unfold runP
  rw [if_neg (by rw [h0]; simp), hr]
  generalize lexP s = r at *
  obtain ⟨r1, r2, r3⟩ := r
  simp only at h0 hf
  rw [h0, hf]
  simp
end Go.Proofs.YtinnikggaflpdaaDoor
