/-
  Texts and their tokens, plain: blanks put ahead of a token.
-/
import Derived.Test.YtdcamcpffiilbaaDoorXQ
namespace Go.Proofs.YtdcamcpffiilbaaDoor
set_option linter.unusedVariables false
set_option linter.unusedSimpArgs false

/-- A token without its place. -/
def key (t : Tok) : Int × Byts8 × Int := (t.kind, t.text, t.num)
def keys (L : List Tok) : List (Int × Byts8 × Int) := L.map key

/-- Where a text stands is no matter for its tokens. -/
theorem lexA_shift (l : Byts8) : ∀ (a ln a' ln' : Int) (n : Nat), (lexA l a ln n).2.1 = (lexA l a' ln' n).2.1 ∧ keys (lexA l a ln n).1 = keys (lexA l a' ln' n).1 := by
  induction hn : l.length using Nat.strongRecOn generalizing l with
  | _ m ih =>
    intro a ln a' ln' n
    by_cases hl : l = []
    · subst hl
      rw [lexA_nil, lexA_nil]
      exact ⟨rfl, rfl⟩
    obtain ⟨k, z, hp⟩ : ∃ k z, pieceP l = (k, z) := ⟨_, _, rfl⟩
    have hr := piece_room l hl
    rw [hp] at hr
    simp only at hr
    have hd : (l.drop z).length < m := by rw [List.length_drop]; omega
    by_cases hk : k = -1
    · subst hk
      rw [lexA_gap hl hp, lexA_gap hl hp]
      exact ih _ hd _ rfl _ _ _ _ _
    · by_cases ht : (tellP k (l.take z) (l.drop z) n).2 = 0
      · rw [lexA_tok hl hp hk a ln n ht, lexA_tok hl hp hk a' ln' n ht]
        have := ih _ hd _ rfl (a + z) (ln + cntL (l.take z)) (a' + z) (ln' + cntL (l.take z)) (n + 1)
        by_cases h0 : (lexA (l.drop z) (a + z) (ln + cntL (l.take z)) (n + 1)).2.1 = 0
        · rw [if_neg (by simpa using h0), if_neg (by rw [← this.1]; simpa using h0)]
          refine ⟨rfl, ?_⟩
          simp only [keys, List.map_cons] at this ⊢
          rw [this.2]
          rfl
        · rw [if_pos h0, if_pos (by rw [← this.1]; exact h0)]
          exact this
      · rw [lexA_bad hl hp hk a ln n ht, lexA_bad hl hp hk a' ln' n ht]
        exact ⟨rfl, rfl⟩

theorem begN_app {p : UInt8 → Bool} {l : Byts8} {m : Nat} (h : 1 ≤ m) (hl : l ≠ []) (y : Byts8) : begN p (l.take m ++ y) = begN p l := by
  cases l with
  | nil => exact absurd rfl hl
  | cons b l =>
    obtain ⟨m, rfl⟩ : ∃ k, m = k + 1 := ⟨m - 1, by omega⟩
    rfl
theorem pre2_app {u v : UInt8} {l : Byts8} {m : Nat} (h : 2 ≤ m) (hl : 2 ≤ l.length) (y : Byts8) : pre2 u v (l.take m ++ y) = pre2 u v l := by
  obtain ⟨m, rfl⟩ : ∃ k, m = k + 2 := ⟨m - 2, by omega⟩
  rcases l with _ | ⟨a, _ | ⟨b, r⟩⟩
  · simp at hl
  · simp at hl
  · simp only [List.take_succ_cons, List.cons_append, pre2_cons]
theorem index_app : ∀ (l y : Byts8), 0 ≤ Lib.index l [42, 47] → Lib.index (l ++ y) [42, 47] = Lib.index l [42, 47]
  | [], y, h => by simp [Lib.index] at h
  | b :: l, y, h => by
    have hg := Lib.index_ge l [42, 47]
    rw [Lib.index] at h
    rw [List.cons_append, Lib.index, Lib.index]
    by_cases h1 : ([42, 47] : Byts8).isPrefixOf (b :: l) = true
    · have h1' : ([42, 47] : Byts8).isPrefixOf (b :: (l ++ y)) = true := by
        cases l with
        | nil => simp [List.isPrefixOf] at h1
        | cons c l => simpa [List.isPrefixOf] using h1
      rw [if_pos h1, if_pos h1']
    · rw [if_neg h1] at h
      by_cases h2 : (Lib.index l [42, 47] == -1) = true
      · rw [if_pos h2] at h
        omega
      · rw [if_neg h2] at h
        have h2' : Lib.index l [42, 47] ≠ -1 := by simpa using h2
        have h1' : ¬ ([42, 47] : Byts8).isPrefixOf (b :: (l ++ y)) = true := by
          cases l with
          | nil => simp [Lib.index] at h2'
          | cons c l => simpa [List.isPrefixOf] using h1
        rw [if_neg h1, if_neg h1', index_app l y (by omega)]
/-- Which of the three gaps a text begins with. -/
theorem gap_cases {l : Byts8} {z : Nat} (hp : pieceP l = (-1, z)) : (begN isBl l = true ∧ z = runN isBl l) ∨ (begN isBl l = false ∧ pre2 47 47 l = true ∧ z = runN isLn l) ∨
    (begN isBl l = false ∧ pre2 47 47 l = false ∧ pre2 47 42 l = true ∧ 0 ≤ Lib.index (l.drop 2) [42, 47] ∧ z = (Lib.index (l.drop 2) [42, 47]).toNat + 4) := by
  unfold pieceP at hp
  by_cases c1 : begN isBl l = true
  · rw [if_pos c1] at hp
    exact .inl ⟨c1, (Prod.mk.inj hp).2.symm⟩
  rw [if_neg c1] at hp
  have c1' : begN isBl l = false := by simpa using c1
  by_cases c2 : pre2 47 47 l = true
  · rw [if_pos c2] at hp
    exact .inr (.inl ⟨c1', c2, (Prod.mk.inj hp).2.symm⟩)
  rw [if_neg c2] at hp
  have c2' : pre2 47 47 l = false := by simpa using c2
  by_cases c3 : pre2 47 42 l = true
  · rw [if_pos c3] at hp
    unfold comP at hp
    by_cases hi : Lib.index (l.drop 2) [42, 47] < 0
    · rw [if_pos hi] at hp
      have := (Prod.mk.inj hp).1
      omega
    · rw [if_neg hi] at hp
      exact .inr (.inr ⟨c1', c2', c3, by omega, (Prod.mk.inj hp).2.symm⟩)
  rw [if_neg c3] at hp
  exfalso
  by_cases c4 : begN isLt l = true
  · rw [if_pos c4] at hp
    have := (Prod.mk.inj hp).1
    omega
  rw [if_neg c4] at hp
  by_cases c5 : (begN isDg l || (begN isPt l && begN isDg (l.drop 1))) = true
  · rw [if_pos c5] at hp
    have := numP_kind l
    rw [hp] at this
    simp at this
  · rw [if_neg c5] at hp
    have := signP_kind l
    rw [hp] at this
    simp at this
theorem pre2_len {u v : UInt8} {l : Byts8} (h : pre2 u v l = true) : 2 ≤ l.length := by
  obtain ⟨r, rfl⟩ := pre2_split h
  simp
theorem runN_cut {p : UInt8 → Bool} {l : Byts8} {m : Nat} (h : runN p l < m) (hm : m ≤ l.length) (y : Byts8) : runN p (l.take m ++ y) = runN p l := by
  have e : l.take m ++ l.drop m = l := List.take_append_drop m l
  have hl : (l.take m).length = m := by rw [List.length_take]; omega
  have := runN_app_lt (p := p) (x := l.take m) (y := l.drop m) y (by rw [e, hl]; exact h)
  rw [this, e]
/-- A star comment is told alike whatever stands behind its end. -/
theorem star_loc {l : Byts8} {z m : Nat} (h1 : begN isBl l = false) (h2 : pre2 47 47 l = false) (h3 : pre2 47 42 l = true) (h4 : 0 ≤ Lib.index (l.drop 2) [42, 47]) (hz : z = (Lib.index (l.drop 2) [42, 47]).toNat + 4) (hm : z ≤ m) (y : Byts8) : pieceP (l.take m ++ y) = (-1, z) := by
  have hl := pre2_len h3
  have hne : l ≠ [] := by intro e; subst e; simp at hl
  have hroom := index_room (l.drop 2) (by omega)
  rw [List.length_drop] at hroom
  unfold pieceP
  rw [begN_app (by omega) hne, if_neg (by rw [h1]; simp), pre2_app (by omega) hl, if_neg (by rw [h2]; simp), pre2_app (by omega) hl, if_pos h3]
  have e : (l.take m ++ y).drop 2 = (l.drop 2).take (m - 2) ++ y := by
    rw [List.drop_append_of_le_length (by rw [List.length_take]; omega), List.drop_take]
  unfold comP
  rw [e, index_app _ _ (by rw [index_take _ _ h4 (by omega)]; exact h4), index_take _ _ h4 (by omega), if_neg (by omega), hz]
/-- Blanks and comments are told alike whatever stands behind the byte that ends them. -/
theorem gap_loc {l : Byts8} {z m : Nat} (hl : l ≠ []) (hp : pieceP l = (-1, z)) (hz : z < m) (hm : m ≤ l.length) (y : Byts8) : pieceP (l.take m ++ y) = (-1, z) := by
  rcases gap_cases hp with ⟨h1, h2⟩ | ⟨h1, h2, h3⟩ | ⟨h1, h2, h3, h4, h5⟩
  · unfold pieceP
    rw [begN_app (by omega) hl, if_pos h1, runN_cut (by omega) hm, h2]
  · have h2l := pre2_len h2
    have hz2 : 2 ≤ z := by
      obtain ⟨r, rfl⟩ := pre2_split h2
      rw [h3, runN_cons, if_pos (by rfl), runN_cons, if_pos (by rfl)]
      omega
    unfold pieceP
    rw [begN_app (by omega) hl, if_neg (by rw [h1]; simp), pre2_app (by omega) h2l, if_pos h2, runN_cut (by omega) hm, h3]
  · exact star_loc h1 h2 h3 h4 h5 (by omega) y

/-- Ahead of a byte of the token all is passed by as it was. -/
theorem skip_loc (l : Byts8) : ∀ (m : Nat) (y : Byts8) (a ln : Int) (n : Nat), skipN l < m → m ≤ l.length → ∃ a' ln', lexA (l.take m ++ y) a ln n = lexA ((l.drop (skipN l)).take (m - skipN l) ++ y) a' ln' n := by
  refine skip_ind (M := fun l => ∀ (m : Nat) (y : Byts8) (a ln : Int) (n : Nat), skipN l < m → m ≤ l.length → ∃ a' ln', lexA (l.take m ++ y) a ln n = lexA ((l.drop (skipN l)).take (m - skipN l) ++ y) a' ln' n) ?_ (fun l k z hl hp hk m y a ln n h1 h2 => ?_) (fun l z hl hp ih m y a ln n h1 h2 => ?_) l
  · intro m y a ln n h1 h2
    simp at h2
    omega
  · rw [skip_tok hl hp hk]
    exact ⟨a, ln, by simp⟩
  · rw [skip_gap hl hp] at h1 ⊢
    have hne : l.take m ++ y ≠ [] := by
      intro e
      have := congrArg List.length e
      rw [List.length_append, List.length_take, List.length_nil] at this
      omega
    have hd : (l.take m ++ y).drop z = (l.drop z).take (m - z) ++ y := by
      rw [List.drop_append_of_le_length (by rw [List.length_take]; omega), List.drop_take]
    obtain ⟨a', ln', h⟩ := ih (m - z) y (a + z) (ln + cntL ((l.take m ++ y).take z)) n (by omega) (by rw [List.length_drop]; omega)
    refine ⟨a', ln', ?_⟩
    rw [lexA_gap hne (gap_loc hl hp (by omega) h2 y), hd, h, List.drop_drop, show m - z - skipN (l.drop z) = m - (z + skipN (l.drop z)) by omega]

theorem tok_beg {l : Byts8} {k : Int} {z : Nat} (hp : pieceP l = (k, z)) (hk : k ≠ -1) : begN isBl l = false := by
  by_cases h : begN isBl l = true
  · unfold pieceP at hp
    rw [if_pos h] at hp
    exact absurd (Prod.mk.inj hp).1.symm hk
  · simpa using h
theorem blanks_pass {more l : Byts8} (hm : ∀ b ∈ more, isBl b = true) (hne : more ≠ []) (hb : begN isBl l = false) (a ln : Int) (n : Nat) : ∃ a' ln', lexA (more ++ l) a ln n = lexA l a' ln' n := by
  have hp : pieceP (more ++ l) = (-1, more.length) := by
    have h1 : begN isBl (more ++ l) = true := by
      cases more with
      | nil => exact absurd rfl hne
      | cons b r => exact hm b (by simp)
    unfold pieceP
    rw [if_pos h1, runN_all hm, runN_none hb]
    rfl
  have e := lexA_gap (l := more ++ l) (by simp [hne]) hp a ln n
  rw [List.drop_left] at e
  exact ⟨_, _, e⟩
/-- Blanks put right ahead of a token are passed by. -/
theorem gap_pass {more : Byts8} (hm : ∀ b ∈ more, isBl b = true) (hne : more ≠ []) (l : Byts8) : ∀ (a ln : Int) (n : Nat), l.drop (skipN l) ≠ [] → ∃ a' ln', lexA (l.take (skipN l) ++ (more ++ l.drop (skipN l))) a ln n = lexA (l.drop (skipN l)) a' ln' n := by
  refine skip_ind (M := fun l => ∀ (a ln : Int) (n : Nat), l.drop (skipN l) ≠ [] → ∃ a' ln', lexA (l.take (skipN l) ++ (more ++ l.drop (skipN l))) a ln n = lexA (l.drop (skipN l)) a' ln' n) ?_ (fun l k z hl hp hk a ln n h1 => ?_) (fun l z hl hp ih a ln n h1 => ?_) l
  · intro a ln n h
    simp at h
  · rw [skip_tok hl hp hk, List.drop_zero, List.take_zero, List.nil_append]
    exact blanks_pass hm hne (tok_beg hp hk) a ln n
  · have hst := skip_stop l h1
    obtain ⟨k1, z1, hp1⟩ : ∃ k z, pieceP (l.drop (skipN l)) = (k, z) := ⟨_, _, rfl⟩
    rw [hp1] at hst
    have hb1 := tok_beg hp1 hst
    have hroom := piece_room l hl
    rw [hp] at hroom
    simp only at hroom
    rw [skip_gap hl hp] at h1 hp1 hb1 ⊢
    rw [← List.drop_drop] at h1
    have hlen : z + skipN (l.drop z) < l.length := by
      refine Nat.lt_of_not_le fun h => h1 ?_
      rw [List.drop_drop]
      exact List.drop_of_length_le h
    have hd : ∀ y : Byts8, (l.take (z + skipN (l.drop z)) ++ y).drop z = (l.drop z).take (skipN (l.drop z)) ++ y := fun y => by
      rw [List.drop_append_of_le_length (by rw [List.length_take]; omega), List.drop_take, Nat.add_sub_cancel_left]
    have hne2 : ∀ y : Byts8, l.take (z + skipN (l.drop z)) ++ y ≠ [] := fun y e => by
      have := congrArg List.length e
      rw [List.length_append, List.length_take, List.length_nil] at this
      omega
    have go : ∀ y : Byts8, y = more ++ l.drop (z + skipN (l.drop z)) → pieceP (l.take (z + skipN (l.drop z)) ++ y) = (-1, z) → ∃ a' ln', lexA (l.take (z + skipN (l.drop z)) ++ y) a ln n = lexA (l.drop (z + skipN (l.drop z))) a' ln' n := fun y hy h => by
      subst hy
      obtain ⟨a', ln', h3⟩ := ih (a + z) (ln + cntL ((l.take (z + skipN (l.drop z)) ++ (more ++ l.drop (z + skipN (l.drop z)))).take z)) n h1
      refine ⟨a', ln', ?_⟩
      rw [List.drop_drop] at h3
      rw [lexA_gap (hne2 _) h, hd _, h3]
    by_cases hs0 : skipN (l.drop z) = 0
    · rw [hs0] at h1 hp1 hb1 hlen hd hne2 go ⊢
      rw [Nat.add_zero] at hp1 hb1 hlen hd hne2 go ⊢
      rcases gap_cases hp with ⟨g1, g2⟩ | ⟨g1, g2, g3⟩ | ⟨g1, g2, g3, g4, g5⟩
      · have hz1 : 1 ≤ z := hroom.1
        have hall : ∀ b ∈ l.take z, isBl b = true := by
          rw [g2]
          have : ∀ l : Byts8, ∀ b ∈ l.take (runN isBl l), isBl b = true := by
            intro l
            induction l with
            | nil => simp
            | cons c l ih2 =>
              intro b hb
              rw [runN_cons] at hb
              split at hb
              · rename_i hc
                rw [List.take_succ_cons] at hb
                rcases List.mem_cons.1 hb with rfl | hb
                · exact hc
                · exact ih2 b hb
              · simp at hb
          exact this l
        have := blanks_pass (more := l.take z ++ more) (l := l.drop z) (fun b hb => by
          rcases List.mem_append.1 hb with hb | hb
          · exact hall b hb
          · exact hm b hb) (by simp [hne]) hb1 a ln n
        rw [List.append_assoc] at this
        exact this
      · exfalso
        have hx : begN isBl (l.drop z) = true := by
          have e : l.take z ++ l.drop z = l := List.take_append_drop z l
          have hf : runN isLn (l.take z ++ l.drop z) = (l.take z).length := by rw [e, List.length_take, ← g3]; omega
          have hb := runN_full_beg hf
          have hnl : l.drop z ≠ [] := by
            intro e2
            have := congrArg List.length e2
            rw [List.length_drop, List.length_nil] at this
            omega
          cases hc : l.drop z with
          | nil => exact absurd hc hnl
          | cons b r =>
            rw [hc] at hb
            have h10 : b.toNat = 10 := by simpa [begN, isLn] using hb
            simp [begN, isBl, h10]
        rw [hx] at hb1
        cases hb1
      · exact go _ rfl (star_loc g1 g2 g3 g4 g5 (Nat.le_refl _) _)
    · exact go _ rfl (gap_loc hl hp (by omega) (by omega) _)

theorem tell_nice {k : Int} {t y y' : Byts8} {n : Nat} (hn : Nice y y') (h : (tellP k t y n).2 = 0) : tellP k t y' n = tellP k t y n := by
  have h1 : ¬ (decide (k = -2) || spoilt k t y) = true := fun e => by
    unfold tellP at h
    rw [if_pos e] at h
    cases h
  have h2 : ¬ (decide (k = -2) || spoilt k t y') = true := by
    simp only [Bool.or_eq_true, not_or, Bool.not_eq_true] at h1 ⊢
    refine ⟨h1.1, ?_⟩
    have h3 := h1.2
    unfold spoilt at h3 ⊢
    by_cases k2 : k = 2
    · rw [if_pos k2] at h3 ⊢
      rw [Bool.or_eq_false_iff] at h3 ⊢
      exact ⟨hn _ bl_lt h3.1, h3.2⟩
    · rw [if_neg k2] at h3 ⊢
      by_cases k3 : k = 3
      · rw [if_pos k3] at h3 ⊢
        rw [Bool.or_eq_false_iff] at h3 ⊢
        exact ⟨hn _ bl_lt h3.1, hn _ bl_pt h3.2⟩
      · rw [if_neg k3]
  unfold tellP
  rw [if_neg h1, if_neg h2]
theorem tell_kind {k : Int} {t y : Byts8} {n : Nat} (h : (tellP k t y n).2 = 0) : k ≠ -2 := fun e => by
  unfold tellP at h
  rw [if_pos (by simp [e])] at h
  cases h

/-- The first token of a text: what stands ahead of it, its piece, the others. -/
theorem lex_first {l : Byts8} {a ln : Int} {n : Nat} {ts : List Tok} (h : lexA l a ln n = (ts, 0, 0)) (hne : ts ≠ []) : ∃ (k : Int) (z : Nat) (x l2 : Byts8) (tm : Int) (ts' : List Tok) (ln2 : Int), l.drop (skipN l) = x ++ l2 ∧ x.length = z ∧ 1 ≤ z ∧ pieceP (x ++ l2) = (k, z) ∧ k ≠ -1 ∧ k ≠ -2 ∧
    (tellP k x l2 n).2 = 0 ∧ tm = (tellP k x l2 n).1 ∧ ts = ⟨k, x, tm, a + skipN l, ln + cntL (l.take (skipN l))⟩ :: ts' ∧ lexA l2 (a + skipN l + z) ln2 (n + 1) = (ts', 0, 0) ∧ lexA (x ++ l2) (a + skipN l) (ln + cntL (l.take (skipN l))) n = (ts, 0, 0) := by
  rw [lexA_skip] at h
  have hst := skip_stop l
  by_cases h0 : l.drop (skipN l) = []
  · rw [h0, lexA_nil] at h
    exact absurd (Prod.mk.inj h).1.symm hne
  have hst := hst h0
  generalize l.drop (skipN l) = l1 at *
  obtain ⟨k, z, hp⟩ : ∃ k z, pieceP l1 = (k, z) := ⟨_, _, rfl⟩
  have hr := piece_room _ h0
  rw [hp] at hr hst
  simp only at hr hst
  have h' := h
  by_cases ht : (tellP k (l1.take z) (l1.drop z) n).2 = 0
  · rw [lexA_tok h0 hp hst _ _ _ ht] at h
    obtain ⟨r, hq⟩ : ∃ r, lexA (l1.drop z) (a + skipN l + z) (ln + cntL (l.take (skipN l)) + cntL (l1.take z)) (n + 1) = r := ⟨_, rfl⟩
    have hf := lexA_form (l1.drop z) (a + skipN l + z) (ln + cntL (l.take (skipN l)) + cntL (l1.take z)) (n + 1)
    rw [hq] at h hf
    obtain ⟨r1, r2, r3⟩ := r
    by_cases hz : r2 = 0
    · rw [if_neg (by simpa using hz)] at h
      have h3 : r3 = 0 := hf.1 hz
      subst hz h3
      have e : l1.take z ++ l1.drop z = l1 := List.take_append_drop z l1
      refine ⟨k, z, l1.take z, l1.drop z, _, r1, _, e.symm, by rw [List.length_take]; omega, hr.1, by rw [e]; exact hp, hst, tell_kind ht, ht, rfl, (Prod.mk.inj h).1.symm, hq, by rw [e]; exact h'⟩
    · rw [if_pos hz] at h
      exact absurd (Prod.mk.inj (Prod.mk.inj h).2).1 hz
  · rw [lexA_bad h0 hp hst _ _ _ ht] at h
    simp only [Prod.mk.injEq] at h
    exact absurd h.2.1 ht
end Go.Proofs.YtdcamcpffiilbaaDoor
