/-
  Texts and their tokens, plain: blanks put ahead of a token change no token; the text of tokens has these tokens.
-/
import Derived.Test.YtgoldmohmjjngaaXR
namespace Go.Proofs.Ytgoldmohmjjngaa
set_option linter.unusedVariables false
set_option linter.unusedSimpArgs false

theorem place_in (d : Nat) : ∀ (l : Byts8) (a ln : Int) (n : Nat) (ts : List Tok), l.length ≤ d → lexA l a ln n = (ts, 0, 0) → ∀ t ∈ ts, a ≤ t.place ∧ t.place < a + l.length := by
  induction d with
  | zero =>
    intro l a ln n ts hd h t ht
    have : l = [] := List.length_eq_zero_iff.1 (by omega)
    subst this
    rw [lexA_nil] at h
    cases h
    simp at ht
  | succ d ih =>
    intro l a ln n ts hd h t ht
    have hne : ts ≠ [] := by intro e; subst e; simp at ht
    obtain ⟨k, z, x, l2, tm, ts', ln2, e1, hz, hz1, hp, hk1, hk2, ht0, _, e2, hrest, _⟩ := lex_first h hne
    have hlen : l.length - skipN l = z + l2.length := by
      have := congrArg List.length e1
      rw [List.length_drop, List.length_append] at this
      omega
    have hsl := skip_le l
    subst e2
    rcases List.mem_cons.1 ht with rfl | ht
    · simp only
      omega
    · have := ih l2 _ _ _ _ (by omega) hrest t ht
      omega

theorem keys_tok {l : Byts8} {k : Int} {z : Nat} (h : l ≠ []) (hp : pieceP l = (k, z)) (hk : k ≠ -1) (a ln : Int) (n : Nat) (ht : (tellP k (l.take z) (l.drop z) n).2 = 0) (hr : (lexA (l.drop z) (a + z) (ln + cntL (l.take z)) (n + 1)).2.1 = 0) :
    (lexA l a ln n).2.1 = 0 ∧ keys (lexA l a ln n).1 = (k, l.take z, (tellP k (l.take z) (l.drop z) n).1) :: keys (lexA (l.drop z) (a + z) (ln + cntL (l.take z)) (n + 1)).1 := by
  rw [lexA_tok h hp hk a ln n ht, if_neg (by simpa using hr)]
  exact ⟨rfl, rfl⟩

/-- Blanks ahead of a token change no token. -/
theorem ins {more : Byts8} (hm : ∀ b ∈ more, isBl b = true) (hmn : more ≠ []) (d : Nat) : ∀ (l : Byts8) (a ln : Int) (n : Nat) (ts : List Tok), l.length ≤ d → lexA l a ln n = (ts, 0, 0) → ∀ (j kk : Nat) (hj : j < ts.length), ts[j].place = a + kk → ∀ a' ln' : Int,
    (lexA (l.take kk ++ (more ++ l.drop kk)) a' ln' n).2.1 = 0 ∧ keys (lexA (l.take kk ++ (more ++ l.drop kk)) a' ln' n).1 = keys ts := by
  induction d with
  | zero =>
    intro l a ln n ts hd h j kk hj
    have : l = [] := List.length_eq_zero_iff.1 (by omega)
    subst this
    rw [lexA_nil] at h
    cases h
    simp at hj
  | succ d ih =>
    intro l a ln n ts hd h j kk hj hpl a' ln'
    have hne : ts ≠ [] := by intro e; subst e; simp at hj
    obtain ⟨k, z, x, l2, tm, ts', ln2, e1, hz, hz1, hp, hk1, hk2, ht0, htm, e2, hrest, hwhole⟩ := lex_first h hne
    have hlen : l.length - skipN l = z + l2.length := by
      have := congrArg List.length e1
      rw [List.length_drop, List.length_append] at this
      omega
    have hsl := skip_le l
    cases j with
    | zero =>
      have hkk : kk = skipN l := by
        subst e2
        simp only [List.getElem_cons_zero] at hpl
        omega
      subst hkk
      have hd0 : l.drop (skipN l) ≠ [] := by
        intro e
        have := congrArg List.length e
        rw [List.length_drop, List.length_nil] at this
        omega
      obtain ⟨a2, ln3, h2⟩ := gap_pass hm hmn l a' ln' n hd0
      rw [h2, e1]
      have := lexA_shift (x ++ l2) a2 ln3 (a + skipN l) (ln + cntL (l.take (skipN l))) n
      rw [hwhole] at this
      exact this
    | succ j =>
      have hpl' : ∃ h : j < ts'.length, ts'[j].place = a + kk := by
        subst e2
        simp only [List.getElem_cons_succ] at hpl
        exact ⟨by simpa using hj, hpl⟩
      obtain ⟨hj', hpj⟩ := hpl'
      have hin := place_in l2.length l2 _ _ _ _ (Nat.le_refl _) hrest ts'[j] (List.getElem_mem hj')
      obtain ⟨q, hq⟩ : ∃ q, kk = skipN l + z + q := ⟨kk - (skipN l + z), by omega⟩
      have hql : q < l2.length := by omega
      obtain ⟨a2, ln3, h2⟩ := skip_loc l kk (more ++ l.drop kk) a' ln' n (by omega) (by omega)
      have e3 : l.drop kk = l2.drop q := by
        rw [hq, Nat.add_assoc, ← List.drop_drop, e1, ← hz, List.drop_append]
        simp
      have e4 : (l.drop (skipN l)).take (kk - skipN l) = x ++ l2.take q := by
        rw [e1, hq, show skipN l + z + q - skipN l = z + q by omega, ← hz, List.take_append]
        simp
        exact List.take_of_length_le (by omega)
      rw [h2, e4, e3, List.append_assoc]
      clear h2
      have hx : ∃ c x', x = c :: x' := by
        cases x with
        | nil => simp at hz; omega
        | cons c x' => exact ⟨c, x', rfl⟩
      obtain ⟨c, x', rfl⟩ := hx
      have hnice : Nice l2 (l2.take q ++ (more ++ l2.drop q)) := by
        cases q with
        | zero =>
          refine nice_blank (.inl ?_)
          cases more with
          | nil => exact absurd rfl hmn
          | cons b r => exact hm b (by simp)
        | succ q =>
          refine nice_same ?_
          cases l2 with
          | nil => simp at hql
          | cons b r => rfl
      have hp2 := tok_loc hnice (by rw [hz]; exact hp) hk1 hk2
      have htk : (c :: x' ++ (l2.take q ++ (more ++ l2.drop q))).take z = c :: x' := by rw [← hz]; exact List.take_left
      have hdk : (c :: x' ++ (l2.take q ++ (more ++ l2.drop q))).drop z = l2.take q ++ (more ++ l2.drop q) := by rw [← hz]; exact List.drop_left
      have htn := tell_nice hnice ht0
      have hI := ih l2 _ _ _ _ (by omega) hrest j q hj' (by rw [hpj, hq]; push_cast; omega) (a2 + z) (ln3 + cntL (c :: x'))
      have hfin := keys_tok (l := c :: x' ++ (l2.take q ++ (more ++ l2.drop q))) (by simp) (by rw [hz] at hp2; exact hp2) hk1 a2 ln3 n (by rw [htk, hdk, htn]; exact ht0) (by rw [htk, hdk]; exact hI.1)
      rw [htk, hdk, htn, hI.2, ← htm] at hfin
      rw [e2]
      exact hfin

/-- The text of tokens. -/
def joinT : List Tok → Byts8
  | [] => []
  | [t] => t.text
  | t :: u :: r => t.text ++ (if t.line < u.line then 10 else 32) :: joinT (u :: r)
theorem sep_bl (t u : Tok) : isBl (if t.line < u.line then 10 else 32) = true := by
  split <;> rfl
/-- Each token of a text is told alone. -/
def Alone (t : Tok) : Prop := ∃ (c : UInt8) (x : Byts8), t.text = c :: x ∧ t.kind ≠ -1 ∧ t.kind ≠ -2 ∧ pieceP (c :: x) = (t.kind, (c :: x).length) ∧ ∀ n, n < 2048 → tellP t.kind t.text [] n = (t.num, 0)
theorem tell_ahead {k : Int} {t y : Byts8} {n : Nat} (h : (tellP k t y n).2 = 0) : n ≠ 2048 ∧ ∀ m, m ≠ 2048 → tellP k t y m = tellP k t y n := by
  have h1 : ¬ (decide (k = -2) || spoilt k t y) = true := fun e => by
    unfold tellP at h
    rw [if_pos e] at h
    cases h
  have h2 : n ≠ 2048 := fun e => by
    unfold tellP at h
    rw [if_neg h1, if_pos e] at h
    cases h
  refine ⟨h2, fun m hm => ?_⟩
  unfold tellP
  rw [if_neg h1, if_neg h1, if_neg h2, if_neg hm]
theorem alone_all (d : Nat) : ∀ (l : Byts8) (a ln : Int) (n : Nat) (ts : List Tok), l.length ≤ d → n ≤ 2048 → lexA l a ln n = (ts, 0, 0) → (∀ t ∈ ts, Alone t) ∧ n + ts.length ≤ 2048 := by
  induction d with
  | zero =>
    intro l a ln n ts hd hn h
    have : l = [] := List.length_eq_zero_iff.1 (by omega)
    subst this
    rw [lexA_nil] at h
    cases h
    exact ⟨by simp, by simpa using hn⟩
  | succ d ih =>
    intro l a ln n ts hd hn h
    by_cases hne : ts = []
    · subst hne
      exact ⟨by simp, by simpa using hn⟩
    obtain ⟨k, z, x, l2, tm, ts', ln2, e1, hz, hz1, hp, hk1, hk2, ht0, htm, e2, hrest, _⟩ := lex_first h hne
    have hlen : l.length - skipN l = z + l2.length := by
      have := congrArg List.length e1
      rw [List.length_drop, List.length_append] at this
      omega
    have hta := tell_ahead ht0
    have hI := ih l2 _ _ _ _ (by omega) (by omega) hrest
    subst e2
    refine ⟨fun t ht => ?_, by simp only [List.length_cons]; omega⟩
    rcases List.mem_cons.1 ht with rfl | ht
    · cases x with
      | nil => simp at hz; omega
      | cons c x =>
        have hnice : Nice l2 [] := nice_blank (.inr rfl)
        refine ⟨c, x, rfl, hk1, hk2, ?_, fun m hm => ?_⟩
        · have := tok_loc hnice (by rw [hz]; exact hp) hk1 hk2
          rw [List.append_nil] at this
          exact this
        · have e := tell_nice hnice ht0
          simp only
          rw [(tell_ahead (by rw [e]; exact ht0)).2 m (by omega), e, htm]
          rw [← ht0]
    · exact hI.1 t ht
/-- A token alone. -/
theorem lex_alone {t : Tok} (h : Alone t) (hl : t.text.length ≤ 8192) : lexP t.text = ([⟨t.kind, t.text, t.num, 0, 0⟩], 0, 0) := by
  obtain ⟨c, x, e, h1, h2, hp, ht⟩ := h
  unfold lexP
  rw [if_neg (by omega)]
  have ht0 := ht 0 (by omega)
  rw [e] at ht0 ⊢
  have hz : (c :: x).take (c :: x).length = c :: x := List.take_length
  have hd : (c :: x).drop (c :: x).length = [] := List.drop_length
  rw [lexA_tok (by simp) hp h1 0 0 0 (by rw [hz, hd, ht0]), hz, hd, lexA_nil, ht0]
  rfl
/-- The text of tokens has these tokens. -/
theorem lex_join : ∀ (ts : List Tok) (a ln : Int) (n : Nat), (∀ t ∈ ts, Alone t) → n + ts.length ≤ 2048 → (lexA (joinT ts) a ln n).2.1 = 0 ∧ keys (lexA (joinT ts) a ln n).1 = keys ts
  | [], a, ln, n, _, _ => by
    rw [joinT, lexA_nil]
    exact ⟨rfl, rfl⟩
  | [t], a, ln, n, h, hn => by
    obtain ⟨c, x, e, h1, h2, hp, ht⟩ := h t (by simp)
    have hz : (c :: x).take (c :: x).length = c :: x := List.take_length
    have hd : (c :: x).drop (c :: x).length = [] := List.drop_length
    have ht0 := ht n (by simp only [List.length_cons, List.length_nil] at hn; omega)
    rw [joinT]
    rw [e] at ht0 ⊢
    have := keys_tok (l := c :: x) (by simp) hp h1 a ln n (by rw [hz, hd, ht0]) (by rw [hd, lexA_nil])
    rw [hz, hd, lexA_nil, ht0] at this
    refine ⟨this.1, this.2.trans ?_⟩
    simp [keys, key, e]
  | t :: u :: r, a, ln, n, h, hn => by
    obtain ⟨c, x, e, h1, h2, hp, ht⟩ := h t (by simp)
    obtain ⟨c2, x2, f, g1, g2, gp, gt⟩ := h u (by simp)
    simp only [List.length_cons] at hn
    have ht0 := ht n (by omega)
    rw [joinT, e]
    rw [e] at ht0
    have hnice : Nice [] ((if t.line < u.line then 10 else 32) :: joinT (u :: r)) := nice_blank (.inl (sep_bl t u))
    have hp2 := tok_loc hnice (by rw [List.append_nil]; exact hp) h1 h2
    have htn := tell_nice (k := t.kind) (t := c :: x) (n := n) hnice (by rw [ht0])
    have htk : (c :: x ++ (if t.line < u.line then 10 else 32) :: joinT (u :: r)).take (c :: x).length = c :: x := List.take_left
    have hdk : (c :: x ++ (if t.line < u.line then 10 else 32) :: joinT (u :: r)).drop (c :: x).length = (if t.line < u.line then 10 else 32) :: joinT (u :: r) := List.drop_left
    have hb : begN isBl (joinT (u :: r)) = false := by
      have hu : begN isBl (c2 :: x2) = false := tok_beg gp g1
      cases r with
      | nil => rw [joinT, f]; exact hu
      | cons v r => rw [joinT, f]; exact hu
    obtain ⟨a2, ln2, hps⟩ := blanks_pass (more := [if t.line < u.line then 10 else 32]) (l := joinT (u :: r)) (fun b hb => by simp at hb; subst hb; exact sep_bl t u) (by simp) hb (a + (c :: x).length) (ln + cntL (c :: x)) (n + 1)
    have hI := lex_join (u :: r) a2 ln2 (n + 1) (fun v hv => h v (by simp [List.mem_cons.1 hv])) (by simp only [List.length_cons]; omega)
    have hps' : lexA ((if t.line < u.line then 10 else 32) :: joinT (u :: r)) (a + (c :: x).length) (ln + cntL (c :: x)) (n + 1) = lexA (joinT (u :: r)) a2 ln2 (n + 1) := hps
    have := keys_tok (by simp) hp2 h1 a ln n (by rw [htk, hdk, htn, ht0]) (by rw [htk, hdk, hps']; exact hI.1)
    rw [htk, hdk, htn, ht0, hps', hI.2] at this
    refine ⟨this.1, this.2.trans ?_⟩
    simp [keys, key, e]
end Go.Proofs.Ytgoldmohmjjngaa
