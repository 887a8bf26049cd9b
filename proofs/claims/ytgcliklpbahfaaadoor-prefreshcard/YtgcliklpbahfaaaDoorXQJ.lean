/- Several texts in one. -/
import Derived.Test.YtgcliklpbahfaaaDoorXP
/-
  Texts and their tokens, plain: a token does not ask what stands far behind it; where tokens stand is no matter for them.
-/
namespace Go.Proofs.YtgcliklpbahfaaaDoor
set_option linter.unusedVariables false
set_option linter.unusedSimpArgs false

theorem runN_app_lt {p : UInt8 → Bool} : ∀ {x y : Byts8} (y' : Byts8), runN p (x ++ y) < x.length → runN p (x ++ y') = runN p (x ++ y)
  | [], y, y', h => by simp at h
  | c :: x, y, y', h => by
    rw [List.cons_append, runN_cons] at h
    rw [List.cons_append, List.cons_append, runN_cons, runN_cons]
    split at h
    · rename_i hc
      rw [if_pos hc, if_pos hc, runN_app_lt (x := x) (y := y) y' (by simpa using h)]
    · rename_i hc
      rw [if_neg hc, if_neg hc]
theorem runN_none {p : UInt8 → Bool} {y : Byts8} (h : begN p y = false) : runN p y = 0 := by
  cases y with
  | nil => rfl
  | cons b y => rw [runN_cons, if_neg (by rw [show p b = false from h]; simp)]
theorem runN_app_full {p : UInt8 → Bool} : ∀ {x y y' : Byts8}, runN p (x ++ y) = x.length → begN p y' = false → runN p (x ++ y') = x.length
  | [], y, y', h, hy => by simpa using runN_none hy
  | c :: x, y, y', h, hy => by
    rw [List.cons_append, runN_cons] at h
    rw [List.cons_append, runN_cons]
    split at h
    · rename_i hc
      rw [if_pos hc, runN_app_full (x := x) (y := y) (by simpa using h) hy]
      rfl
    · simp at h
theorem runN_full_beg {p : UInt8 → Bool} : ∀ {x y : Byts8}, runN p (x ++ y) = x.length → begN p y = false
  | [], y, h => by
    cases y with
    | nil => rfl
    | cons b y =>
      rw [List.nil_append, runN_cons] at h
      split at h
      · simp at h
      · rename_i hc; simpa [begN] using hc
  | c :: x, y, h => by
    rw [List.cons_append, runN_cons] at h
    split at h
    · exact runN_full_beg (x := x) (by simpa using h)
    · simp at h
theorem runN_all {p : UInt8 → Bool} : ∀ {x y : Byts8}, (∀ b ∈ x, p b = true) → runN p (x ++ y) = x.length + runN p y
  | [], y, _ => by simp
  | c :: x, y, h => by
    rw [List.cons_append, runN_cons, if_pos (h c (by simp)), runN_all (fun b hb => h b (by simp [hb]))]
    simp only [List.length_cons]
    omega

/-- What y does not begin with, y' does not begin with, as long as that is no blank. -/
def Nice (y y' : Byts8) : Prop := ∀ p : UInt8 → Bool, (∀ b, isBl b = true → p b = false) → begN p y = false → begN p y' = false
theorem nice_same {y y' : Byts8} (h : y'.head? = y.head?) : Nice y y' := by
  intro p _ hp
  cases y' with
  | nil => rfl
  | cons b r =>
    cases y with
    | nil => simp at h
    | cons c r' =>
      simp at h
      subst h
      exact hp
theorem nice_blank {y y' : Byts8} (h : begN isBl y' = true ∨ y' = []) : Nice y y' := by
  intro p hb _
  rcases h with h | rfl
  · cases y' with
    | nil => rfl
    | cons b r => exact hb b h
  · rfl
theorem bl_dg (b : UInt8) (h : isBl b = true) : isDg b = false := by
  simp only [isBl, Bool.or_eq_true, Bool.and_eq_true, decide_eq_true_eq] at h
  simp only [isDg, Bool.and_eq_false_iff, decide_eq_false_iff_not]
  omega
theorem bl_lt (b : UInt8) (h : isBl b = true) : isLt b = false := by
  simp only [isBl, Bool.or_eq_true, Bool.and_eq_true, decide_eq_true_eq] at h
  simp only [isLt, Bool.or_eq_false_iff, Bool.and_eq_false_iff, decide_eq_false_iff_not]
  omega
theorem bl_wd (b : UInt8) (h : isBl b = true) : isWd b = false := by
  unfold isWd
  rw [bl_dg b h, bl_lt b h]
  rfl
theorem bl_pt (b : UInt8) (h : isBl b = true) : isPt b = false := by
  simp only [isBl, Bool.or_eq_true, Bool.and_eq_true, decide_eq_true_eq] at h
  simp only [isPt, decide_eq_false_iff_not]
  omega
theorem bl_eq (c b : UInt8) (hc : isBl c = false) (h : isBl b = true) : (c == b) = false := by
  rw [beq_eq_false_iff_ne]
  intro e
  subst e
  rw [hc] at h
  cases h

theorem pre2_nice {u v c : UInt8} {x y y' : Byts8} (hv : isBl v = false) (hn : Nice y y') (h : pre2 u v (c :: x ++ y) = false) : pre2 u v (c :: x ++ y') = false := by
  cases x with
  | cons d x =>
    simp only [List.cons_append, pre2_cons] at h ⊢
    exact h
  | nil =>
    have e : ∀ r : Byts8, pre2 u v (c :: r) = ((u == c) && begN (fun b => v == b) r) := fun r => by
      cases r with
      | nil => rw [pre2_one]; simp [begN]
      | cons b r => rw [pre2_cons]; rfl
    simp only [List.cons_append, List.nil_append] at h ⊢
    rw [e] at h ⊢
    by_cases hc : (u == c) = true
    · rw [hc, Bool.true_and] at h ⊢
      exact hn _ (fun b hb => bl_eq v b hv hb) h
    · rw [show (u == c) = false by simpa using hc]
      rfl
theorem two_nice {c : UInt8} {x y y' : Byts8} (hn : Nice y y') (h : isTwo (c :: x ++ y) = false) : isTwo (c :: x ++ y') = false := by
  cases x with
  | cons d x => exact h
  | nil =>
    have hcons : ∀ (r : Byts8), isTwo (c :: r) = begN (fun b => twos.contains [c, b]) r := fun r => by
      cases r with
      | nil =>
        unfold isTwo
        show twos.contains [c] = false
        rw [List.contains_eq_any_beq]
        simp [twos]
      | cons b r => rfl
    simp only [List.cons_append, List.nil_append] at h ⊢
    rw [hcons] at h ⊢
    refine hn _ (fun b hb => ?_) h
    have h0 : ∀ t ∈ twos, ∀ b' , t.getLast? = some b' → isBl b' = false := by decide
    by_cases hc : twos.contains [c, b] = true
    · have := h0 [c, b] (by simpa using hc) b rfl
      rw [this] at hb
      cases hb
    · simpa using hc

theorem num_nice {x y y' : Byts8} {k : Int} (hn : Nice y y') (h : numP (x ++ y) = (k, x.length)) : numP (x ++ y') = (k, x.length) := by
  unfold numP at h ⊢
  have hle : runN isDg (x ++ y) ≤ x.length := by
    by_cases hb : begN isPt ((x ++ y).drop (runN isDg (x ++ y))) = true
    · rw [if_pos hb] at h
      have := (Prod.mk.inj h).2
      omega
    · rw [if_neg hb] at h
      have := (Prod.mk.inj h).2
      omega
  by_cases hlt : runN isDg (x ++ y) < x.length
  · have e1 := runN_app_lt (x := x) (y := y) y' hlt
    rw [e1]
    generalize runN isDg (x ++ y) = d at *
    have hdx : ∀ r : Byts8, begN isPt ((x ++ r).drop d) = begN isPt (x.drop d) := fun r => by
      rw [List.drop_append_of_le_length (by omega)]
      have : x.drop d ≠ [] := by
        intro e
        have := congrArg List.length e
        rw [List.length_drop, List.length_nil] at this
        omega
      cases hx : x.drop d with
      | nil => exact absurd hx this
      | cons b r => rfl
    rw [hdx] at h ⊢
    by_cases hb : begN isPt (x.drop d) = true
    · rw [if_pos hb] at h ⊢
      have hz := (Prod.mk.inj h).2
      have hk := (Prod.mk.inj h).1
      rw [List.drop_append_of_le_length (by omega)] at hz ⊢
      have hfull : runN isDg (x.drop (d + 1) ++ y) = (x.drop (d + 1)).length := by rw [List.length_drop]; omega
      rw [runN_app_full hfull (hn _ bl_dg (runN_full_beg hfull)), ← hk, List.length_drop]
      congr 1
      omega
    · rw [if_neg hb] at h
      have := (Prod.mk.inj h).2
      omega
  · have hfull : runN isDg (x ++ y) = x.length := by omega
    have hyf := hn _ bl_dg (runN_full_beg hfull)
    rw [runN_app_full hfull hyf]
    rw [hfull] at h
    rw [List.drop_left] at h ⊢
    by_cases hb : begN isPt y = true
    · rw [if_pos hb] at h
      have := (Prod.mk.inj h).2
      omega
    · rw [if_neg hb] at h
      rw [if_neg (by rw [hn _ bl_pt (by simpa using hb)]; simp)]
      exact h

/-- A token's begin is told alike whatever stands far behind it. -/
theorem tok_loc {c : UInt8} {x y y' : Byts8} {k : Int} (hn : Nice y y') (h : pieceP (c :: x ++ y) = (k, (c :: x).length)) (h1 : k ≠ -1) (h2 : k ≠ -2) : pieceP (c :: x ++ y') = (k, (c :: x).length) := by
  unfold pieceP at h ⊢
  have b1 : begN isBl (c :: x ++ y') = begN isBl (c :: x ++ y) := rfl
  rw [b1]
  by_cases c1 : begN isBl (c :: x ++ y) = true
  · rw [if_pos c1] at h
    exact absurd (Prod.mk.inj h).1.symm h1
  rw [if_neg c1] at h ⊢
  by_cases c2 : pre2 47 47 (c :: x ++ y) = true
  · rw [if_pos c2] at h
    exact absurd (Prod.mk.inj h).1.symm h1
  rw [if_neg c2] at h
  rw [if_neg (by rw [pre2_nice (by decide) hn (by simpa using c2)]; simp)]
  by_cases c3 : pre2 47 42 (c :: x ++ y) = true
  · rw [if_pos c3] at h
    exfalso
    unfold comP at h
    split at h
    · exact h2 (Prod.mk.inj h).1.symm
    · exact h1 (Prod.mk.inj h).1.symm
  rw [if_neg c3] at h
  rw [if_neg (by rw [pre2_nice (by decide) hn (by simpa using c3)]; simp)]
  have b4 : begN isLt (c :: x ++ y') = begN isLt (c :: x ++ y) := rfl
  rw [b4]
  by_cases c4 : begN isLt (c :: x ++ y) = true
  · rw [if_pos c4] at h ⊢
    have hz := (Prod.mk.inj h).2
    have hk := (Prod.mk.inj h).1
    rw [runN_app_full hz (hn _ bl_wd (runN_full_beg hz)), ← hk]
  rw [if_neg c4] at h ⊢
  have b5 : begN isDg (c :: x ++ y') = begN isDg (c :: x ++ y) := rfl
  have b6 : begN isPt (c :: x ++ y') = begN isPt (c :: x ++ y) := rfl
  have hd : ∀ r : Byts8, (c :: x ++ r).drop 1 = x ++ r := fun _ => rfl
  rw [b5, b6, hd]
  rw [hd] at h
  by_cases c5 : (begN isDg (c :: x ++ y) || (begN isPt (c :: x ++ y) && begN isDg (x ++ y))) = true
  · rw [if_pos c5] at h
    rw [if_pos, num_nice hn h]
    rcases (Bool.or_eq_true _ _).mp c5 with c6 | c6
    · rw [c6]; rfl
    · obtain ⟨c7, c8⟩ := (Bool.and_eq_true _ _).mp c6
      cases x with
      | cons d x =>
        rw [show begN isDg (d :: x ++ y') = begN isDg (d :: x ++ y) from rfl]
        exact c5
      | nil =>
        exfalso
        have hpt : isPt c = true := c7
        have hnd : isDg c = false := by
          simp only [isPt, decide_eq_true_eq] at hpt
          simp only [isDg, Bool.and_eq_false_iff, decide_eq_false_iff_not]
          omega
        have hz := (Prod.mk.inj h).2
        have e0 : runN isDg (c :: y) = 0 := by rw [runN_cons, if_neg (by rw [hnd]; simp)]
        have e1 : (numP (c :: y)).2 = 0 + 1 + runN isDg y := by
          unfold numP
          rw [e0, List.drop_zero, if_pos (show begN isPt (c :: y) = true from hpt)]
          rfl
        have e2 : (numP (c :: y)).2 = 1 := congrArg Prod.snd h
        have := runN_pos c8
        simp only [List.nil_append] at this
        omega
  · rw [if_neg c5] at h
    have c5f : begN isDg (c :: x ++ y) = false ∧ (begN isPt (c :: x ++ y) = true → begN isDg (x ++ y) = false) := by
      have := c5
      simp only [Bool.or_eq_true, Bool.and_eq_true, not_or, not_and, Bool.not_eq_true] at this
      exact ⟨this.1, this.2⟩
    rw [if_neg]
    · unfold signP at h ⊢
      by_cases c6 : isTwo (c :: x ++ y) = true
      · rw [if_pos c6] at h
        cases x with
        | cons d x =>
          rw [if_pos (show isTwo (c :: d :: x ++ y') = true from c6)]
          exact h
        | nil =>
          have := (Prod.mk.inj h).2
          simp at this
      · rw [if_neg c6] at h
        rw [if_neg (by rw [two_nice hn (by simpa using c6)]; simp)]
        exact h
    · intro hcon
      rcases (Bool.or_eq_true _ _).mp hcon with c6 | c6
      · rw [c5f.1] at c6; cases c6
      · obtain ⟨c7, c8⟩ := (Bool.and_eq_true _ _).mp c6
        have c9 := c5f.2 c7
        cases x with
        | cons d x => rw [show begN isDg (d :: x ++ y') = begN isDg (d :: x ++ y) from rfl, c9] at c8; cases c8
        | nil =>
          simp only [List.nil_append] at c8 c9
          rw [hn _ bl_dg c9] at c8
          cases c8
end Go.Proofs.YtgcliklpbahfaaaDoor

/-
  Texts and their tokens, plain: blanks put ahead of a token.
-/
namespace Go.Proofs.YtgcliklpbahfaaaDoor
set_option linter.unusedVariables false
set_option linter.unusedSimpArgs false

/-- A token without its place. -/
def key (t : Tok) : Int × Byts8 × Int := (t.kind, t.text, t.num)
def keys (L : List Tok) : List (Int × Byts8 × Int) := L.map key

/-- Where a text stands is no matter for its tokens. -/
theorem lexA_shift (l : Byts8) : ∀ (a ln a' ln' : Int) (n : Nat), (lexA l a ln n).2.1 = (lexA l a' ln' n).2.1 ∧ keys (lexA l a ln n).1 = keys (lexA l a' ln' n).1 := by
  induction hn : l.length using Nat.strongRecOn generalizing l with
  | _ m ih =>
    intro a ln a' ln' n
    by_cases hl : l = []
    · subst hl
      rw [lexA_nil, lexA_nil]
      exact ⟨rfl, rfl⟩
    obtain ⟨k, z, hp⟩ : ∃ k z, pieceP l = (k, z) := ⟨_, _, rfl⟩
    have hr := piece_room l hl
    rw [hp] at hr
    simp only at hr
    have hd : (l.drop z).length < m := by rw [List.length_drop]; omega
    by_cases hk : k = -1
    · subst hk
      rw [lexA_gap hl hp, lexA_gap hl hp]
      exact ih _ hd _ rfl _ _ _ _ _
    · by_cases ht : (tellP k (l.take z) (l.drop z) n).2 = 0
      · rw [lexA_tok hl hp hk a ln n ht, lexA_tok hl hp hk a' ln' n ht]
        have := ih _ hd _ rfl (a + z) (ln + cntL (l.take z)) (a' + z) (ln' + cntL (l.take z)) (n + 1)
        by_cases h0 : (lexA (l.drop z) (a + z) (ln + cntL (l.take z)) (n + 1)).2.1 = 0
        · rw [if_neg (by simpa using h0), if_neg (by rw [← this.1]; simpa using h0)]
          refine ⟨rfl, ?_⟩
          simp only [keys, List.map_cons] at this ⊢
          rw [this.2]
          rfl
        · rw [if_pos h0, if_pos (by rw [← this.1]; exact h0)]
          exact this
      · rw [lexA_bad hl hp hk a ln n ht, lexA_bad hl hp hk a' ln' n ht]
        exact ⟨rfl, rfl⟩

theorem begN_app {p : UInt8 → Bool} {l : Byts8} {m : Nat} (h : 1 ≤ m) (hl : l ≠ []) (y : Byts8) : begN p (l.take m ++ y) = begN p l := by
  cases l with
  | nil => exact absurd rfl hl
  | cons b l =>
    obtain ⟨m, rfl⟩ : ∃ k, m = k + 1 := ⟨m - 1, by omega⟩
    rfl
theorem pre2_app {u v : UInt8} {l : Byts8} {m : Nat} (h : 2 ≤ m) (hl : 2 ≤ l.length) (y : Byts8) : pre2 u v (l.take m ++ y) = pre2 u v l := by
  obtain ⟨m, rfl⟩ : ∃ k, m = k + 2 := ⟨m - 2, by omega⟩
  rcases l with _ | ⟨a, _ | ⟨b, r⟩⟩
  · simp at hl
  · simp at hl
  · simp only [List.take_succ_cons, List.cons_append, pre2_cons]
theorem index_app : ∀ (l y : Byts8), 0 ≤ Lib.index l [42, 47] → Lib.index (l ++ y) [42, 47] = Lib.index l [42, 47]
  | [], y, h => by simp [Lib.index] at h
  | b :: l, y, h => by
    have hg := Lib.index_ge l [42, 47]
    rw [Lib.index] at h
    rw [List.cons_append, Lib.index, Lib.index]
    by_cases h1 : ([42, 47] : Byts8).isPrefixOf (b :: l) = true
    · have h1' : ([42, 47] : Byts8).isPrefixOf (b :: (l ++ y)) = true := by
        cases l with
        | nil => simp [List.isPrefixOf] at h1
        | cons c l => simpa [List.isPrefixOf] using h1
      rw [if_pos h1, if_pos h1']
    · rw [if_neg h1] at h
      by_cases h2 : (Lib.index l [42, 47] == -1) = true
      · rw [if_pos h2] at h
        omega
      · rw [if_neg h2] at h
        have h2' : Lib.index l [42, 47] ≠ -1 := by simpa using h2
        have h1' : ¬ ([42, 47] : Byts8).isPrefixOf (b :: (l ++ y)) = true := by
          cases l with
          | nil => simp [Lib.index] at h2'
          | cons c l => simpa [List.isPrefixOf] using h1
        rw [if_neg h1, if_neg h1', index_app l y (by omega)]
/-- Which of the three gaps a text begins with. -/
theorem gap_cases {l : Byts8} {z : Nat} (hp : pieceP l = (-1, z)) : (begN isBl l = true ∧ z = runN isBl l) ∨ (begN isBl l = false ∧ pre2 47 47 l = true ∧ z = runN isLn l) ∨
    (begN isBl l = false ∧ pre2 47 47 l = false ∧ pre2 47 42 l = true ∧ 0 ≤ Lib.index (l.drop 2) [42, 47] ∧ z = (Lib.index (l.drop 2) [42, 47]).toNat + 4) := by
  unfold pieceP at hp
  by_cases c1 : begN isBl l = true
  · rw [if_pos c1] at hp
    exact .inl ⟨c1, (Prod.mk.inj hp).2.symm⟩
  rw [if_neg c1] at hp
  have c1' : begN isBl l = false := by simpa using c1
  by_cases c2 : pre2 47 47 l = true
  · rw [if_pos c2] at hp
    exact .inr (.inl ⟨c1', c2, (Prod.mk.inj hp).2.symm⟩)
  rw [if_neg c2] at hp
  have c2' : pre2 47 47 l = false := by simpa using c2
  by_cases c3 : pre2 47 42 l = true
  · rw [if_pos c3] at hp
    unfold comP at hp
    by_cases hi : Lib.index (l.drop 2) [42, 47] < 0
    · rw [if_pos hi] at hp
      have := (Prod.mk.inj hp).1
      omega
    · rw [if_neg hi] at hp
      exact .inr (.inr ⟨c1', c2', c3, by omega, (Prod.mk.inj hp).2.symm⟩)
  rw [if_neg c3] at hp
  exfalso
  by_cases c4 : begN isLt l = true
  · rw [if_pos c4] at hp
    have := (Prod.mk.inj hp).1
    omega
  rw [if_neg c4] at hp
  by_cases c5 : (begN isDg l || (begN isPt l && begN isDg (l.drop 1))) = true
  · rw [if_pos c5] at hp
    have := numP_kind l
    rw [hp] at this
    simp at this
  · rw [if_neg c5] at hp
    have := signP_kind l
    rw [hp] at this
    simp at this
theorem pre2_len {u v : UInt8} {l : Byts8} (h : pre2 u v l = true) : 2 ≤ l.length := by
  obtain ⟨r, rfl⟩ := pre2_split h
  simp
theorem runN_cut {p : UInt8 → Bool} {l : Byts8} {m : Nat} (h : runN p l < m) (hm : m ≤ l.length) (y : Byts8) : runN p (l.take m ++ y) = runN p l := by
  have e : l.take m ++ l.drop m = l := List.take_append_drop m l
  have hl : (l.take m).length = m := by rw [List.length_take]; omega
  have := runN_app_lt (p := p) (x := l.take m) (y := l.drop m) y (by rw [e, hl]; exact h)
  rw [this, e]
/-- A star comment is told alike whatever stands behind its end. -/
theorem star_loc {l : Byts8} {z m : Nat} (h1 : begN isBl l = false) (h2 : pre2 47 47 l = false) (h3 : pre2 47 42 l = true) (h4 : 0 ≤ Lib.index (l.drop 2) [42, 47]) (hz : z = (Lib.index (l.drop 2) [42, 47]).toNat + 4) (hm : z ≤ m) (y : Byts8) : pieceP (l.take m ++ y) = (-1, z) := by
  have hl := pre2_len h3
  have hne : l ≠ [] := by intro e; subst e; simp at hl
  have hroom := index_room (l.drop 2) (by omega)
  rw [List.length_drop] at hroom
  unfold pieceP
  rw [begN_app (by omega) hne, if_neg (by rw [h1]; simp), pre2_app (by omega) hl, if_neg (by rw [h2]; simp), pre2_app (by omega) hl, if_pos h3]
  have e : (l.take m ++ y).drop 2 = (l.drop 2).take (m - 2) ++ y := by
    rw [List.drop_append_of_le_length (by rw [List.length_take]; omega), List.drop_take]
  unfold comP
  rw [e, index_app _ _ (by rw [index_take _ _ h4 (by omega)]; exact h4), index_take _ _ h4 (by omega), if_neg (by omega), hz]
/-- Blanks and comments are told alike whatever stands behind the byte that ends them. -/
theorem gap_loc {l : Byts8} {z m : Nat} (hl : l ≠ []) (hp : pieceP l = (-1, z)) (hz : z < m) (hm : m ≤ l.length) (y : Byts8) : pieceP (l.take m ++ y) = (-1, z) := by
  rcases gap_cases hp with ⟨h1, h2⟩ | ⟨h1, h2, h3⟩ | ⟨h1, h2, h3, h4, h5⟩
  · unfold pieceP
    rw [begN_app (by omega) hl, if_pos h1, runN_cut (by omega) hm, h2]
  · have h2l := pre2_len h2
    have hz2 : 2 ≤ z := by
      obtain ⟨r, rfl⟩ := pre2_split h2
      rw [h3, runN_cons, if_pos (by rfl), runN_cons, if_pos (by rfl)]
      omega
    unfold pieceP
    rw [begN_app (by omega) hl, if_neg (by rw [h1]; simp), pre2_app (by omega) h2l, if_pos h2, runN_cut (by omega) hm, h3]
  · exact star_loc h1 h2 h3 h4 h5 (by omega) y

/-- Ahead of a byte of the token all is passed by as it was. -/
theorem skip_loc (l : Byts8) : ∀ (m : Nat) (y : Byts8) (a ln : Int) (n : Nat), skipN l < m → m ≤ l.length → ∃ a' ln', lexA (l.take m ++ y) a ln n = lexA ((l.drop (skipN l)).take (m - skipN l) ++ y) a' ln' n := by
  refine skip_ind (M := fun l => ∀ (m : Nat) (y : Byts8) (a ln : Int) (n : Nat), skipN l < m → m ≤ l.length → ∃ a' ln', lexA (l.take m ++ y) a ln n = lexA ((l.drop (skipN l)).take (m - skipN l) ++ y) a' ln' n) ?_ (fun l k z hl hp hk m y a ln n h1 h2 => ?_) (fun l z hl hp ih m y a ln n h1 h2 => ?_) l
  · intro m y a ln n h1 h2
    simp at h2
    omega
  · rw [skip_tok hl hp hk]
    exact ⟨a, ln, by simp⟩
  · rw [skip_gap hl hp] at h1 ⊢
    have hne : l.take m ++ y ≠ [] := by
      intro e
      have := congrArg List.length e
      rw [List.length_append, List.length_take, List.length_nil] at this
      omega
    have hd : (l.take m ++ y).drop z = (l.drop z).take (m - z) ++ y := by
      rw [List.drop_append_of_le_length (by rw [List.length_take]; omega), List.drop_take]
    obtain ⟨a', ln', h⟩ := ih (m - z) y (a + z) (ln + cntL ((l.take m ++ y).take z)) n (by omega) (by rw [List.length_drop]; omega)
    refine ⟨a', ln', ?_⟩
    rw [lexA_gap hne (gap_loc hl hp (by omega) h2 y), hd, h, List.drop_drop, show m - z - skipN (l.drop z) = m - (z + skipN (l.drop z)) by omega]

theorem tok_beg {l : Byts8} {k : Int} {z : Nat} (hp : pieceP l = (k, z)) (hk : k ≠ -1) : begN isBl l = false := by
  by_cases h : begN isBl l = true
  · unfold pieceP at hp
    rw [if_pos h] at hp
    exact absurd (Prod.mk.inj hp).1.symm hk
  · simpa using h
theorem blanks_pass {more l : Byts8} (hm : ∀ b ∈ more, isBl b = true) (hne : more ≠ []) (hb : begN isBl l = false) (a ln : Int) (n : Nat) : ∃ a' ln', lexA (more ++ l) a ln n = lexA l a' ln' n := by
  have hp : pieceP (more ++ l) = (-1, more.length) := by
    have h1 : begN isBl (more ++ l) = true := by
      cases more with
      | nil => exact absurd rfl hne
      | cons b r => exact hm b (by simp)
    unfold pieceP
    rw [if_pos h1, runN_all hm, runN_none hb]
    rfl
  have e := lexA_gap (l := more ++ l) (by simp [hne]) hp a ln n
  rw [List.drop_left] at e
  exact ⟨_, _, e⟩
/-- Blanks put right ahead of a token are passed by. -/
theorem gap_pass {more : Byts8} (hm : ∀ b ∈ more, isBl b = true) (hne : more ≠ []) (l : Byts8) : ∀ (a ln : Int) (n : Nat), l.drop (skipN l) ≠ [] → ∃ a' ln', lexA (l.take (skipN l) ++ (more ++ l.drop (skipN l))) a ln n = lexA (l.drop (skipN l)) a' ln' n := by
  refine skip_ind (M := fun l => ∀ (a ln : Int) (n : Nat), l.drop (skipN l) ≠ [] → ∃ a' ln', lexA (l.take (skipN l) ++ (more ++ l.drop (skipN l))) a ln n = lexA (l.drop (skipN l)) a' ln' n) ?_ (fun l k z hl hp hk a ln n h1 => ?_) (fun l z hl hp ih a ln n h1 => ?_) l
  · intro a ln n h
    simp at h
  · rw [skip_tok hl hp hk, List.drop_zero, List.take_zero, List.nil_append]
    exact blanks_pass hm hne (tok_beg hp hk) a ln n
  · have hst := skip_stop l h1
    obtain ⟨k1, z1, hp1⟩ : ∃ k z, pieceP (l.drop (skipN l)) = (k, z) := ⟨_, _, rfl⟩
    rw [hp1] at hst
    have hb1 := tok_beg hp1 hst
    have hroom := piece_room l hl
    rw [hp] at hroom
    simp only at hroom
    rw [skip_gap hl hp] at h1 hp1 hb1 ⊢
    rw [← List.drop_drop] at h1
    have hlen : z + skipN (l.drop z) < l.length := by
      refine Nat.lt_of_not_le fun h => h1 ?_
      rw [List.drop_drop]
      exact List.drop_of_length_le h
    have hd : ∀ y : Byts8, (l.take (z + skipN (l.drop z)) ++ y).drop z = (l.drop z).take (skipN (l.drop z)) ++ y := fun y => by
      rw [List.drop_append_of_le_length (by rw [List.length_take]; omega), List.drop_take, Nat.add_sub_cancel_left]
    have hne2 : ∀ y : Byts8, l.take (z + skipN (l.drop z)) ++ y ≠ [] := fun y e => by
      have := congrArg List.length e
      rw [List.length_append, List.length_take, List.length_nil] at this
      omega
    have go : ∀ y : Byts8, y = more ++ l.drop (z + skipN (l.drop z)) → pieceP (l.take (z + skipN (l.drop z)) ++ y) = (-1, z) → ∃ a' ln', lexA (l.take (z + skipN (l.drop z)) ++ y) a ln n = lexA (l.drop (z + skipN (l.drop z))) a' ln' n := fun y hy h => by
      subst hy
      obtain ⟨a', ln', h3⟩ := ih (a + z) (ln + cntL ((l.take (z + skipN (l.drop z)) ++ (more ++ l.drop (z + skipN (l.drop z)))).take z)) n h1
      refine ⟨a', ln', ?_⟩
      rw [List.drop_drop] at h3
      rw [lexA_gap (hne2 _) h, hd _, h3]
    by_cases hs0 : skipN (l.drop z) = 0
    · rw [hs0] at h1 hp1 hb1 hlen hd hne2 go ⊢
      rw [Nat.add_zero] at hp1 hb1 hlen hd hne2 go ⊢
      rcases gap_cases hp with ⟨g1, g2⟩ | ⟨g1, g2, g3⟩ | ⟨g1, g2, g3, g4, g5⟩
      · have hz1 : 1 ≤ z := hroom.1
        have hall : ∀ b ∈ l.take z, isBl b = true := by
          rw [g2]
          have : ∀ l : Byts8, ∀ b ∈ l.take (runN isBl l), isBl b = true := by
            intro l
            induction l with
            | nil => simp
            | cons c l ih2 =>
              intro b hb
              rw [runN_cons] at hb
              split at hb
              · rename_i hc
                rw [List.take_succ_cons] at hb
                rcases List.mem_cons.1 hb with rfl | hb
                · exact hc
                · exact ih2 b hb
              · simp at hb
          exact this l
        have := blanks_pass (more := l.take z ++ more) (l := l.drop z) (fun b hb => by
          rcases List.mem_append.1 hb with hb | hb
          · exact hall b hb
          · exact hm b hb) (by simp [hne]) hb1 a ln n
        rw [List.append_assoc] at this
        exact this
      · exfalso
        have hx : begN isBl (l.drop z) = true := by
          have e : l.take z ++ l.drop z = l := List.take_append_drop z l
          have hf : runN isLn (l.take z ++ l.drop z) = (l.take z).length := by rw [e, List.length_take, ← g3]; omega
          have hb := runN_full_beg hf
          have hnl : l.drop z ≠ [] := by
            intro e2
            have := congrArg List.length e2
            rw [List.length_drop, List.length_nil] at this
            omega
          cases hc : l.drop z with
          | nil => exact absurd hc hnl
          | cons b r =>
            rw [hc] at hb
            have h10 : b.toNat = 10 := by simpa [begN, isLn] using hb
            simp [begN, isBl, h10]
        rw [hx] at hb1
        cases hb1
      · exact go _ rfl (star_loc g1 g2 g3 g4 g5 (Nat.le_refl _) _)
    · exact go _ rfl (gap_loc hl hp (by omega) (by omega) _)

theorem tell_nice {k : Int} {t y y' : Byts8} {n : Nat} (hn : Nice y y') (h : (tellP k t y n).2 = 0) : tellP k t y' n = tellP k t y n := by
  have h1 : ¬ (decide (k = -2) || spoilt k t y) = true := fun e => by
    unfold tellP at h
    rw [if_pos e] at h
    cases h
  have h2 : ¬ (decide (k = -2) || spoilt k t y') = true := by
    simp only [Bool.or_eq_true, not_or, Bool.not_eq_true] at h1 ⊢
    refine ⟨h1.1, ?_⟩
    have h3 := h1.2
    unfold spoilt at h3 ⊢
    by_cases k2 : k = 2
    · rw [if_pos k2] at h3 ⊢
      rw [Bool.or_eq_false_iff] at h3 ⊢
      exact ⟨hn _ bl_lt h3.1, h3.2⟩
    · rw [if_neg k2] at h3 ⊢
      by_cases k3 : k = 3
      · rw [if_pos k3] at h3 ⊢
        rw [Bool.or_eq_false_iff] at h3 ⊢
        exact ⟨hn _ bl_lt h3.1, hn _ bl_pt h3.2⟩
      · rw [if_neg k3]
  unfold tellP
  rw [if_neg h1, if_neg h2]
theorem tell_kind {k : Int} {t y : Byts8} {n : Nat} (h : (tellP k t y n).2 = 0) : k ≠ -2 := fun e => by
  unfold tellP at h
  rw [if_pos (by simp [e])] at h
  cases h

/-- The first token of a text: what stands ahead of it, its piece, the others. -/
theorem lex_first {l : Byts8} {a ln : Int} {n : Nat} {ts : List Tok} (h : lexA l a ln n = (ts, 0, 0)) (hne : ts ≠ []) : ∃ (k : Int) (z : Nat) (x l2 : Byts8) (tm : Int) (ts' : List Tok) (ln2 : Int), l.drop (skipN l) = x ++ l2 ∧ x.length = z ∧ 1 ≤ z ∧ pieceP (x ++ l2) = (k, z) ∧ k ≠ -1 ∧ k ≠ -2 ∧
    (tellP k x l2 n).2 = 0 ∧ tm = (tellP k x l2 n).1 ∧ ts = ⟨k, x, tm, a + skipN l, ln + cntL (l.take (skipN l))⟩ :: ts' ∧ lexA l2 (a + skipN l + z) ln2 (n + 1) = (ts', 0, 0) ∧ lexA (x ++ l2) (a + skipN l) (ln + cntL (l.take (skipN l))) n = (ts, 0, 0) := by
  rw [lexA_skip] at h
  have hst := skip_stop l
  by_cases h0 : l.drop (skipN l) = []
  · rw [h0, lexA_nil] at h
    exact absurd (Prod.mk.inj h).1.symm hne
  have hst := hst h0
  generalize l.drop (skipN l) = l1 at *
  obtain ⟨k, z, hp⟩ : ∃ k z, pieceP l1 = (k, z) := ⟨_, _, rfl⟩
  have hr := piece_room _ h0
  rw [hp] at hr hst
  simp only at hr hst
  have h' := h
  by_cases ht : (tellP k (l1.take z) (l1.drop z) n).2 = 0
  · rw [lexA_tok h0 hp hst _ _ _ ht] at h
    obtain ⟨r, hq⟩ : ∃ r, lexA (l1.drop z) (a + skipN l + z) (ln + cntL (l.take (skipN l)) + cntL (l1.take z)) (n + 1) = r := ⟨_, rfl⟩
    have hf := lexA_form (l1.drop z) (a + skipN l + z) (ln + cntL (l.take (skipN l)) + cntL (l1.take z)) (n + 1)
    rw [hq] at h hf
    obtain ⟨r1, r2, r3⟩ := r
    by_cases hz : r2 = 0
    · rw [if_neg (by simpa using hz)] at h
      have h3 : r3 = 0 := hf.1 hz
      subst hz h3
      have e : l1.take z ++ l1.drop z = l1 := List.take_append_drop z l1
      refine ⟨k, z, l1.take z, l1.drop z, _, r1, _, e.symm, by rw [List.length_take]; omega, hr.1, by rw [e]; exact hp, hst, tell_kind ht, ht, rfl, (Prod.mk.inj h).1.symm, hq, by rw [e]; exact h'⟩
    · rw [if_pos hz] at h
      exact absurd (Prod.mk.inj (Prod.mk.inj h).2).1 hz
  · rw [lexA_bad h0 hp hst _ _ _ ht] at h
    simp only [Prod.mk.injEq] at h
    exact absurd h.2.1 ht
end Go.Proofs.YtgcliklpbahfaaaDoor
