/-
  A word that stands for tokens is these, plain.
-/
import Derived.Test.YtgcliklpbahfaaaDoorZIJ
import Derived.Test.YtgcliklpbahfaaaDoorZH
namespace Go.Proofs.YtgcliklpbahfaaaDoor
set_option linter.unusedVariables false
set_option linter.unusedSimpArgs false

/-- A token of what a word stands for, where the word stands. -/
def atT (u t : Tok) : Tok := ⟨t.kind, t.text, t.num, u.place, u.line⟩
theorem exp_stay {E : Env} {t : Tok} (h : E t.text = none) (pl ln : Int) (f : Nat) (wi : List Byts8) (d : Nat) : expT E pl ln f wi t d = some ([⟨t.kind, t.text, t.num, pl, ln⟩], d) := by
  have h2 : (wi.contains t.text || (E t.text).isNone) = true := by rw [h]; simp
  cases f with
  | zero => unfold expT; rw [if_pos h2]
  | succ f => unfold expT; rw [if_pos h2]
theorem exp_all {E : Env} (u : Tok) (f : Nat) (wi : List Byts8) (d : Nat) : ∀ (L : List Tok), (∀ t ∈ L, E t.text = none) → expL (expT E u.place u.line f wi) L d = some (L.map (atT u), d)
  | [], _ => rfl
  | t :: L, h => by
    rw [expL, exp_stay (h t (by simp))]
    simp only
    rw [exp_all u f wi d L (fun x hx => h x (by simp [hx]))]
    rfl
theorem told_word {E : Env} {L : List Tok} {u : Tok} (hw : E u.text = some L) (hL : ∀ t ∈ L, E t.text = none) (tl : List Tok) (hl : tl.length + L.length ≤ 2048) : toldP E tl u = some (tl ++ L.map (atT u)) := by
  unfold toldP
  have h2 : ¬ (([] : List Byts8).contains u.text || (E u.text).isNone) = true := by rw [hw]; simp
  rw [expT, if_neg h2, if_neg (by omega), hw]
  simp only [Option.getD_some]
  rw [exp_all u _ _ _ L hL]
  simp only [List.length_map]
  rw [if_pos hl]
theorem line_word {E : Env} {L : List Tok} (hL : ∀ t ∈ L, E t.text = none) : ∀ (NT tl : List Tok), (∀ u ∈ NT, E u.text = some L) → tl.length + NT.length * L.length ≤ 2048 → lineP E tl NT = (tl ++ NT.flatMap (fun u => L.map (atT u)), 0, 0)
  | [], tl, _, _ => by simp [lineP]
  | u :: NT, tl, h, hl => by
    have e : (u :: NT).length * L.length = L.length + NT.length * L.length := by rw [List.length_cons, Nat.add_mul]; omega
    rw [e] at hl
    rw [lineP, told_word (h u (by simp)) hL tl (by omega)]
    simp only
    rw [line_word hL NT _ (fun x hx => h x (by simp [hx])) (by rw [List.length_append, List.length_map]; omega)]
    simp
/-- A line that says what a word stands for, then a line of that word. -/
theorem read_def {w : Byts8} (hf : freshP w = true) (h0 : beginE w = none) (hwl : w ≠ wLine) {L NT : List Tok} {t0 t1 t2 : Tok} (e0 : t0.text = [35]) (e1 : t1.text = tDefine) (e2 : t2.text = w) (hw35 : w ≠ [35])
    (hNT : ∀ u ∈ NT, u.text = w) (hL : ∀ t ∈ L, plainT t = true ∧ t.text ≠ w) (hb : NT.length * L.length ≤ 2048) (ls : List (List Tok)) (hls : ls = [] ∧ NT = [] ∨ ls = [NT] ∧ NT ≠ []) :
    readP true beginE [] [] ((t0 :: t1 :: t2 :: L) :: ls) = ((NT.flatMap (fun u => L.map (atT u)), []), 0, 0) := by
  rw [readP]
  generalize some (wholeL _) = W1
  have hE1 : setE beginE wLine W1 w = none := by unfold setE; rw [if_neg hwl]; exact h0
  have e3 : obeyP (setE beginE wLine W1) [] (t1 :: t2 :: L) true = some (setE (setE beginE wLine W1) w (some L), []) := by
    simp only [obeyP]
    rw [e1, if_neg (by decide), if_neg (by decide), if_neg (by decide), if_neg (by decide), if_neg (by decide), if_neg (by decide), if_pos rfl]
    have e4 : defineP (setE beginE wLine W1) (t2 :: L) = some (setE (setE beginE wLine W1) w (some L)) := by
      unfold defineP
      have e5 : (hd0 (t2 :: L)).text = w := e2
      rw [e5, if_neg (by rw [hf]; simp), if_neg (by rw [hE1]; simp)]
      rfl
    rw [e4]
    rfl
  rw [if_pos (show (hd0 (t0 :: t1 :: t2 :: L)).text = [35] from e0)]
  simp only [List.tail_cons]
  rw [e3]
  simp only
  rcases hls with ⟨rfl, rfl⟩ | ⟨rfl, hne⟩
  · rfl
  · have h35 : ¬ (hd0 NT).text = [35] := by
      cases NT with
      | nil => exact absurd rfl hne
      | cons u NT =>
        have h1 := hNT u (by simp)
        show ¬ u.text = [35]
        rw [h1]
        exact hw35
    rw [readP, if_neg h35, if_neg (by decide)]
    generalize some (wholeL _) = W2
    have hE3 : setE (setE (setE beginE wLine W1) w (some L)) wLine W2 w = some L := by
      unfold setE
      rw [if_neg hwl, if_pos rfl]
    have hE4 : ∀ t ∈ L, setE (setE (setE beginE wLine W1) w (some L)) wLine W2 t.text = none := fun t ht => by
      obtain ⟨hp, hn⟩ := hL t ht
      obtain ⟨_, h1, h2, h3⟩ := plainT_parts hp
      unfold setE
      rw [if_neg h2, if_neg hn, if_neg h2]
      exact begin_first _ h1 h2 h3
    have hln := line_word hE4 NT [] (fun u hu => by rw [hNT u hu]; exact hE3) (by simpa using hb)
    rw [hln]
    simp only [List.nil_append]
    rw [if_neg (by simp)]
    rfl
theorem copies_len (L : List Tok) : ∀ NT : List Tok, (NT.flatMap (fun u => L.map (atT u))).length = NT.length * L.length
  | [] => by simp
  | u :: NT => by
    rw [List.flatMap_cons, List.length_append, copies_len L NT, List.length_map, List.length_cons, Nat.add_mul]
    omega
theorem copies_at (L : List Tok) (hm : 0 < L.length) : ∀ (NT : List Tok) (i : Nat) (h : i < (NT.flatMap (fun u => L.map (atT u))).length), ((NT.flatMap (fun u => L.map (atT u)))[i]).text = (L[i % L.length]'(Nat.mod_lt _ hm)).text ∧ ((NT.flatMap (fun u => L.map (atT u)))[i]).kind = (L[i % L.length]'(Nat.mod_lt _ hm)).kind
  | [], i, h => by simp at h
  | u :: NT, i, h => by
    have hc : (u :: NT).flatMap (fun u => L.map (atT u)) = L.map (atT u) ++ NT.flatMap (fun u => L.map (atT u)) := List.flatMap_cons
    simp only [hc] at h ⊢
    by_cases hi : i < L.length
    · rw [List.getElem_append_left (by simpa using hi)]
      have e : i % L.length = i := Nat.mod_eq_of_lt hi
      simp [atT, e]
    · rw [List.getElem_append_right (by simp; omega)]
      rw [List.length_append, List.length_map] at h
      have ih := copies_at L hm NT (i - L.length) (by omega)
      have e : i % L.length = (i - L.length) % L.length := Nat.mod_eq_sub_mod (by omega)
      simp only [List.length_map, e]
      exact ih

def wName : Byts8 := [78, 65, 77, 69]
def dName : Byts8 := [35, 100, 101, 102, 105, 110, 101, 32, 78, 65, 77, 69]
def nmL : Nat → Byts8
  | 0 => []
  | k + 1 => 32 :: (wName ++ nmL k)
theorem nmL_snoc : ∀ k, nmL k ++ 32 :: wName = nmL (k + 1)
  | 0 => by simp [nmL]
  | k + 1 => by
    show 32 :: (wName ++ nmL k) ++ 32 :: wName = 32 :: (wName ++ nmL (k + 1))
    rw [← nmL_snoc k]
    simp
theorem nmL_len : ∀ k, (nmL k).length = 5 * k
  | 0 => rfl
  | k + 1 => by
    show (32 :: (wName ++ nmL k)).length = _
    rw [List.length_cons, List.length_append, nmL_len k]
    simp [wName]
    omega
theorem no_sl {a : Byts8} (h : ∀ i, i < a.length → pre2 47 47 (a.drop i) = false) : ∀ i, pre2 47 47 (a.drop i) = false := fun i => by
  by_cases hi : i < a.length
  · exact h i hi
  · rw [List.drop_eq_nil_of_le (by omega)]
    rfl
theorem lex_name1 (p ln : Int) (n : Nat) (hn : n < 2048) : lexA wName p ln n = ([⟨1, wName, 0, p, ln⟩], 0, 0) := by
  have h0 : lexA wName 0 0 0 = ([⟨1, wName, 0, 0, 0⟩], 0, 0) := by
    rw [lexA_fuel 4 _ _ _ _ (by decide)]
    kernel_rfl
  have h1 := lexA_move 4 wName 0 0 0 _ (by decide) h0 p ln n (by simp; omega)
  simpa [mvT] using h1
theorem lex_nm : ∀ (k : Nat) (p ln : Int) (n : Nat), n + k ≤ 2048 → ∃ ts, lexA (nmL k) p ln n = (ts, 0, 0) ∧ ts.length = k ∧ ∀ t ∈ ts, t.text = wName ∧ t.line = ln
  | 0, p, ln, n, _ => ⟨[], lexA_nil _ _ _, rfl, fun t h => by cases h⟩
  | 1, p, ln, n, h => by
    refine ⟨[⟨1, wName, 0, p + 1, ln⟩], ?_, rfl, fun t ht => ?_⟩
    · show lexA (32 :: (wName ++ [])) p ln n = _
      rw [List.append_nil, lexA_one (by decide), lex_name1 _ _ _ (by omega)]
      have e : ln + (cntL [32] : Nat) = ln := by
        have : cntL [32] = 0 := by decide
        rw [this]; simp
      rw [e]
    · simp at ht
      subst ht
      exact ⟨rfl, rfl⟩
  | k + 2, p, ln, n, h => by
    obtain ⟨ts, h1, h2, h3⟩ := lex_nm (k + 1) (p + 1 + 4) ln (n + 1) (by omega)
    refine ⟨⟨1, wName, 0, p + 1, ln⟩ :: ts, ?_, by simp [h2], fun t ht => ?_⟩
    · show lexA (32 :: (wName ++ 32 :: (wName ++ nmL k))) p ln n = _
      have e : ln + (cntL [32] : Nat) = ln := by
        have : cntL [32] = 0 := by decide
        rw [this]; simp
      rw [lexA_one (by decide), e, lex_bl (by decide) (wName ++ nmL k) 4 wName (p + 1) ln n _ (by decide) (Or.inr (no_sl (by decide))) (lex_name1 _ _ _ (by omega))]
      have e2 : ln + (cntL wName : Nat) = ln := by
        have : cntL wName = 0 := by decide
        rw [this]; simp
      have e3 : lexA (32 :: (wName ++ nmL k)) (p + 1 + (wName.length : Nat)) (ln + (cntL wName : Nat)) (n + [(⟨1, wName, 0, p + 1, ln⟩ : Tok)].length) = (ts, 0, 0) := by
        rw [e2]
        exact h1
      rw [e3]
      simp
    · simp only [List.mem_cons] at ht
      rcases ht with rfl | ht
      · exact ⟨rfl, rfl⟩
      · exact h3 t ht
theorem fresh_NAME : freshP wName = true := by
  have h : lexP wName = ([⟨1, wName, 0, 0, 0⟩], 0, 0) := by
    unfold lexP
    rw [if_neg (by decide)]
    exact lex_name1 0 0 0 (by omega)
  unfold freshP
  rw [h]
  decide
theorem lex_dName : lexA dName 0 0 0 = ([⟨4, [35], 0, 0, 0⟩, ⟨1, tDefine, 0, 1, 0⟩, ⟨1, wName, 0, 8, 0⟩], 0, 0) := by
  rw [lexA_fuel 12 _ _ _ _ (by decide)]
  kernel_rfl
/-- What PreNames' text is told as. -/
theorem names_run {body : Byts8} {l : List Tok} (h : lexA body 0 0 0 = (l, 0, 0)) (hp : ∀ t ∈ l, plainT t = true ∧ t.text ≠ wName ∧ t.line = 0) (hl : l.length ≤ 20) (hb : body.length ≤ 400) {k : Nat} (hk : k < 20) :
    ∃ G, runP (dName ++ 32 :: (body ++ 10 :: nmL k)) = (G, 0, 0) ∧ G.length = k * l.length ∧ ∀ (i : Nat) (hi : i < G.length) (hm : 0 < l.length), G[i].text = (l[i % l.length]'(Nat.mod_lt _ hm)).text ∧ G[i].kind = (l[i % l.length]'(Nat.mod_lt _ hm)).kind := by
  obtain ⟨A, hA⟩ : ∃ A, A = dName ++ 32 :: body := ⟨_, rfl⟩
  have hAl : A.length = 13 + body.length := by rw [hA]; simp [dName]; omega
  have htext : dName ++ 32 :: (body ++ 10 :: nmL k) = A ++ 10 :: nmL k := by rw [hA]; simp
  have hm := lexA_move body.length body 0 0 0 l (Nat.le_refl _) h 13 0 3 (by omega)
  obtain ⟨l2, hl2⟩ : ∃ l2, l2 = l.map (mvT 13 0) := ⟨_, rfl⟩
  rw [← hl2] at hm
  have hll : l2.length = l.length := by rw [hl2, List.length_map]
  have hLA : lexA A 0 0 0 = (⟨4, [35], 0, 0, 0⟩ :: ⟨1, tDefine, 0, 1, 0⟩ :: ⟨1, wName, 0, 8, 0⟩ :: l2, 0, 0) := by
    rw [hA, lex_bl (by decide) body 12 dName 0 0 0 _ (by decide) (Or.inr (no_sl (by decide))) lex_dName]
    have e : lexA (32 :: body) ((0 : Int) + (dName.length : Nat)) ((0 : Int) + (cntL dName : Nat)) (0 + [(⟨4, [35], 0, 0, 0⟩ : Tok), ⟨1, tDefine, 0, 1, 0⟩, ⟨1, wName, 0, 8, 0⟩].length) = (l2, 0, 0) := by
      rw [lexA_one (by decide)]
      exact hm
    rw [e]
    simp
  obtain ⟨ts, h1, h2, h3⟩ := lex_nm k (A.length + 1) (cntL A + 1) (3 + l2.length) (by omega)
  have hX : lexA (A ++ 10 :: nmL k) 0 0 0 = ((⟨4, [35], 0, 0, 0⟩ :: ⟨1, tDefine, 0, 1, 0⟩ :: ⟨1, wName, 0, 8, 0⟩ :: l2) ++ ts, 0, 0) := by
    rw [lex_bl (by decide) (nmL k) A.length A 0 0 0 _ (Nat.le_refl _) (Or.inl rfl) hLA]
    have e : lexA (10 :: nmL k) ((0 : Int) + (A.length : Nat)) ((0 : Int) + (cntL A : Nat)) (0 + (⟨4, [35], 0, 0, 0⟩ :: ⟨1, tDefine, 0, 1, 0⟩ :: ⟨1, wName, 0, 8, 0⟩ :: l2 : List Tok).length) = (ts, 0, 0) := by
      rw [lexA_one (by decide), Int.zero_add, Int.zero_add]
      have e1 : (0 + (⟨4, [35], 0, 0, 0⟩ :: ⟨1, tDefine, 0, 1, 0⟩ :: ⟨1, wName, 0, 8, 0⟩ :: l2 : List Tok).length) = 3 + l2.length := by simp; omega
      rw [e1]
      exact h1
    rw [e]
    simp
  have hlines0 : ∀ t ∈ (⟨4, [35], 0, 0, 0⟩ :: ⟨1, tDefine, 0, 1, 0⟩ :: ⟨1, wName, 0, 8, 0⟩ :: l2 : List Tok), t.line = 0 := fun t ht => by
    simp only [List.mem_cons] at ht
    rcases ht with rfl | rfl | rfl | ht
    · rfl
    · rfl
    · rfl
    · rw [hl2] at ht
      obtain ⟨u, hu, rfl⟩ := List.mem_map.1 ht
      have := (hp u hu).2.2
      simp [mvT, this]
  have hlines : ∃ ls, linesP ((⟨4, [35], 0, 0, 0⟩ :: ⟨1, tDefine, 0, 1, 0⟩ :: ⟨1, wName, 0, 8, 0⟩ :: l2) ++ ts) = (⟨4, [35], 0, 0, 0⟩ :: ⟨1, tDefine, 0, 1, 0⟩ :: ⟨1, wName, 0, 8, 0⟩ :: l2) :: ls ∧ (ls = [] ∧ ts = [] ∨ ls = [ts] ∧ ts ≠ []) := by
    refine ⟨linesP ts, ?_, ?_⟩
    · rw [lines_app _ _ (fun t ht u hu => by rw [hlines0 t ht, (h3 u hu).2]; omega), lines_one 0 _ (by simp) hlines0]
      rfl
    · by_cases hts : ts = []
      · subst hts; exact Or.inl ⟨rfl, rfl⟩
      · exact Or.inr ⟨lines_one _ ts hts (fun t ht => (h3 t ht).2), hts⟩
  obtain ⟨ls, hls, hls2⟩ := hlines
  have hpl : ∀ t ∈ l2, plainT t = true ∧ t.text ≠ wName := fun t ht => by
    rw [hl2] at ht
    obtain ⟨u, hu, rfl⟩ := List.mem_map.1 ht
    exact ⟨(hp u hu).1, (hp u hu).2.1⟩
  have hmul : ts.length * l2.length ≤ 2048 := by
    rw [h2, hll]
    have : k * l.length ≤ 20 * 20 := Nat.mul_le_mul (by omega) hl
    omega
  have hrd := read_def fresh_NAME (by decide) (by decide) (t0 := ⟨4, [35], 0, 0, 0⟩) (t1 := ⟨1, tDefine, 0, 1, 0⟩) (t2 := ⟨1, wName, 0, 8, 0⟩) rfl rfl rfl (by decide) (fun u hu => (h3 u hu).1) hpl hmul ls hls2
  refine ⟨ts.flatMap (fun u => l2.map (atT u)), ?_, ?_, ?_⟩
  · rw [htext]
    unfold runP
    have hP : lexP (A ++ 10 :: nmL k) = ((⟨4, [35], 0, 0, 0⟩ :: ⟨1, tDefine, 0, 1, 0⟩ :: ⟨1, wName, 0, 8, 0⟩ :: l2) ++ ts, 0, 0) := by
      unfold lexP
      rw [if_neg (by rw [List.length_append, List.length_cons, nmL_len]; omega), hX]
    rw [hP]
    simp only
    rw [if_neg (by simp), hls, hrd]
    simp
  · rw [copies_len, h2, hll]
  · intro i hi hm0
    have := copies_at l2 (by omega) ts i hi
    have e : i % l2.length = i % l.length := by rw [hll]
    simp only [e] at this
    refine ⟨this.1.trans ?_, this.2.trans ?_⟩
    · simp [hl2, mvT]
    · simp [hl2, mvT]
end Go.Proofs.YtgcliklpbahfaaaDoor
