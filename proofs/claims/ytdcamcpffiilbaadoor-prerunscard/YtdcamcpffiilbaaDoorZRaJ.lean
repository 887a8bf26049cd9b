/- Several texts in one. -/
import Derived.Test.YtdcamcpffiilbaaDoorZA
/-
  What a text is told as by the document's own way, plain, and that it is what the program tells: words as a list, parts with their outer ones, what is replaced with its bounds.
-/
namespace Go.Proofs.YtdcamcpffiilbaaDoor
set_option linter.unusedVariables false
set_option linter.unusedSimpArgs false

/-- A word, and what it stands for. -/
abbrev Wd := Byts8 × List Tok
def lookR : List Wd → Byts8 → Option (List Tok)
  | [], _ => none
  | p :: r, k => if p.1 = k then some p.2 else lookR r k
def standsR (ws : List Wd) (k : Byts8) : Bool := k == wLine || (k == wVers || (lookR ws k).isSome)
/-- A text that begins as a word does. -/
def wordT (t : Byts8) : Bool := begN isLt t
/-- What is asked of tokens: a word is what begins with a letter; which words may be defined; which number is 100; which sign is #. -/
structure Tk (kept : Byts8 → Bool) (t : Tok) : Prop where
  word : wordT t.text = decide (t.kind = 1)
  fresh : freshP t.text = (decide (t.kind = 1) && !kept t.text)
  hundred : sameK [t] (wholeL 100) = (decide (t.kind = 2) && t.text == [49, 48, 48])
  hash : t.text = [35] → t.kind = 4
/-- A part: whether there was an else, whether its half counts, whether the outer ones do. -/
structure RP where
  els : Bool
  counts : Bool
  outer : Bool
def countsR (ps : List RP) : Bool := ps.all (·.counts)
def nameR (t : Tok) : Byts8 := if t.kind = 1 then t.text else []
def remR (ws : List Wd) (k : Byts8) : List Wd := ws.filter (fun p => !(p.1 == k))
/-- What a directive does. -/
def directR (kept : Byts8 → Bool) (ws : List Wd) (ps : List RP) (l : List Tok) (first : Bool) : Option (List Wd × List RP) :=
  match l with
  | [] => some (ws, ps)
  | t :: rest =>
    if nameR t = tElse ∨ nameR t = tEndif then
      match ps.getLast? with
      | none => none
      | some p => if nameR t = tElse ∧ p.els = true then none else some (ws, ps.dropLast ++ (if nameR t = tElse then [⟨true, p.outer && !p.counts, p.outer⟩] else []))
    else if nameR t = tIfdef ∨ nameR t = tIfndef then
      if countsR ps = true ∧ isWordL rest = false then none
      else some (ws, ps ++ [⟨false, countsR ps && (!rest.isEmpty && (standsR ws (hd0 rest).text == decide (nameR t = tIfdef))), countsR ps⟩])
    else if countsR ps = false then some (ws, ps)
    else if nameR t = tVersion then (if first = true ∧ rest.length = 1 ∧ (hd0 rest).kind = 2 ∧ (hd0 rest).text = [49, 48, 48] then some (ws, ps) else none)
    else if nameR t = tDefine then (if rest = [] ∨ (hd0 rest).kind ≠ 1 ∨ kept (hd0 rest).text = true ∨ standsR ws (hd0 rest).text = true then none else some (((hd0 rest).text, rest.tail) :: ws, ps))
    else if nameR t = tUndef ∧ isWordL rest = true ∧ kept (hd0 rest).text = false then some (remR ws (hd0 rest).text, ps)
    else none
/-- Token by token, with a bound on what has come. -/
def loopR (f : Tok → Nat → Option (List Tok × Nat)) : List Tok → List Tok → Nat → Option (List Tok × Nat)
  | [], out, d => some (out, d)
  | t :: ts, out, d => match f t d with
    | none => none
    | some (x, n) => if 2048 < out.length + x.length then none else loopR f ts (out ++ x) n
def bodyR (ws : List Wd) (ln : Int) (k : Byts8) : List Tok := if k = wLine then wholeL (ln + 1) else if k = wVers then wholeL 100 else (lookR ws k).getD []
/-- What a token is told as. -/
def replR (ws : List Wd) (pl ln : Int) : Nat → List Byts8 → Tok → Nat → Option (List Tok × Nat)
  | 0, wi, t, d => if (!decide (t.kind = 1) || (!standsR ws t.text || wi.contains t.text)) = true then some ([⟨t.kind, t.text, t.num, pl, ln⟩], d) else none
  | f + 1, wi, t, d => if (!decide (t.kind = 1) || (!standsR ws t.text || wi.contains t.text)) = true then some ([⟨t.kind, t.text, t.num, pl, ln⟩], d)
    else if 2048 < d + 1 then none else loopR (replR ws pl ln f (t.text :: wi)) (bodyR ws ln t.text) [] (d + 1)
/-- What words stand for on a line. -/
def envR (ws : List Wd) (ln : Int) : Env := fun k => if k = wLine then some (wholeL (ln + 1)) else if k = wVers then some (wholeL 100) else lookR ws k
theorem stands_env (ws : List Wd) (ln : Int) (k : Byts8) : standsR ws k = (envR ws ln k).isSome := by
  unfold standsR envR
  by_cases h1 : k = wLine
  · rw [if_pos h1, beq_iff_eq.2 h1]
    rfl
  · rw [if_neg h1, beq_eq_false_iff_ne.2 h1, Bool.false_or]
    by_cases h2 : k = wVers
    · rw [if_pos h2, beq_iff_eq.2 h2]
      rfl
    · rw [if_neg h2, beq_eq_false_iff_ne.2 h2, Bool.false_or]
theorem body_env (ws : List Wd) (ln : Int) (k : Byts8) : bodyR ws ln k = (envR ws ln k).getD [] := by
  unfold bodyR envR
  split
  · rfl
  · split <;> rfl
/-- The words begin as words do, and stand for tokens. -/
def WsOk (kept : Byts8 → Bool) (ws : List Wd) : Prop := ∀ p ∈ ws, wordT p.1 = true ∧ ∀ t ∈ p.2, Tk kept t
theorem look_mem {ws : List Wd} {k : Byts8} {l : List Tok} (h : lookR ws k = some l) : (k, l) ∈ ws := by
  induction ws with
  | nil => cases h
  | cons p r ih =>
    unfold lookR at h
    split at h
    · rename_i e
      cases h
      rw [← e]
      exact List.mem_cons_self
    · exact List.mem_cons_of_mem _ (ih h)
theorem env_word {kept : Byts8 → Bool} {ws : List Wd} (hw : WsOk kept ws) (ln : Int) {k : Byts8} (h : wordT k = false) : envR ws ln k = none := by
  unfold envR
  rw [if_neg (fun e => by rw [e] at h; revert h; decide), if_neg (fun e => by rw [e] at h; revert h; decide)]
  cases hl : lookR ws k with
  | none => rfl
  | some l =>
    have := (hw _ (look_mem hl)).1
    rw [h] at this
    cases this
/-- Whether a token stays. -/
theorem stays_eq {kept : Byts8 → Bool} {ws : List Wd} (hw : WsOk kept ws) (ln : Int) {t : Tok} (ht : Tk kept t) (wi : List Byts8) :
    (!decide (t.kind = 1) || (!standsR ws t.text || wi.contains t.text)) = (wi.contains t.text || (envR ws ln t.text).isNone) := by
  rw [stands_env ws ln]
  have hx := ht.word
  cases hk : decide (t.kind = 1) with
  | true =>
    cases (envR ws ln t.text) <;> cases (wi.contains t.text) <;> rfl
  | false =>
    rw [hk] at hx
    rw [env_word hw ln hx]
    simp
theorem loop_some {f g : Tok → Nat → Option (List Tok × Nat)} : ∀ {ts out : List Tok} {d : Nat} {o : List Tok} {n : Nat}, (∀ t ∈ ts, ∀ d x m, f t d = some (x, m) → g t d = some (x, m)) → loopR f ts out d = some (o, n) → ∃ ys, expL g ts d = some (ys, n) ∧ o = out ++ ys
  | [], out, d, o, n, _, h => by
    cases h
    exact ⟨[], rfl, by simp⟩
  | t :: ts, out, d, o, n, hf, h => by
    unfold loopR at h
    cases hft : f t d with
    | none => rw [hft] at h; cases h
    | some p =>
      obtain ⟨x, m⟩ := p
      rw [hft] at h
      simp only at h
      split at h
      · cases h
      · obtain ⟨ys, h1, h2⟩ := loop_some (fun t ht => hf t (List.mem_cons_of_mem _ ht)) h
        refine ⟨x ++ ys, ?_, by rw [h2, List.append_assoc]⟩
        unfold expL
        rw [hf t List.mem_cons_self d x m hft]
        simp only
        rw [h1]
theorem loop_none {f g : Tok → Nat → Option (List Tok × Nat)} : ∀ {ts out : List Tok} {d : Nat}, (∀ t ∈ ts, ∀ d x m, f t d = some (x, m) → g t d = some (x, m)) → (∀ t ∈ ts, ∀ d, f t d = none → g t d = none ∨ ∃ y m, g t d = some (y, m) ∧ 2048 < y.length) → loopR f ts out d = none →
    expL g ts d = none ∨ ∃ ys n, expL g ts d = some (ys, n) ∧ 2048 < out.length + ys.length
  | [], out, d, _, _, h => by cases h
  | t :: ts, out, d, hf, hn, h => by
    unfold loopR at h
    have step : ∀ {x : List Tok} {m : Nat}, g t d = some (x, m) → (2048 < out.length + x.length ∨ (expL g ts m = none ∨ ∃ ys n, expL g ts m = some (ys, n) ∧ 2048 < (out ++ x).length + ys.length)) → expL g (t :: ts) d = none ∨ ∃ ys n, expL g (t :: ts) d = some (ys, n) ∧ 2048 < out.length + ys.length := by
      intro x m hg hc
      unfold expL
      rw [hg]
      simp only
      cases he : expL g ts m with
      | none => exact .inl rfl
      | some p =>
        obtain ⟨ys, n⟩ := p
        refine .inr ⟨x ++ ys, n, rfl, ?_⟩
        rw [List.length_append]
        rcases hc with hc | hc | ⟨ys2, n2, hc, hl⟩
        · omega
        · rw [he] at hc; cases hc
        · rw [he] at hc
          cases hc
          rw [List.length_append] at hl
          omega
    cases hft : f t d with
    | none =>
      rcases hn t List.mem_cons_self d hft with hg | ⟨y, m, hg, hl⟩
      · refine .inl ?_
        unfold expL
        rw [hg]
      · exact step hg (.inl (by omega))
    | some p =>
      obtain ⟨x, m⟩ := p
      rw [hft] at h
      simp only at h
      have hg := hf t List.mem_cons_self d x m hft
      split at h
      · rename_i hlt
        exact step hg (.inl hlt)
      · exact step hg (.inr (loop_none (fun t ht => hf t (List.mem_cons_of_mem _ ht)) (fun t ht => hn t (List.mem_cons_of_mem _ ht)) h))
/-- What is replaced is the same; what is too much for the one is too much for the other. -/
theorem repl_eq {kept : Byts8 → Bool} {ws : List Wd} (hw : WsOk kept ws) (pl ln : Int) (hl : ∀ t ∈ wholeL (ln + 1), Tk kept t) (hv : ∀ t ∈ wholeL 100, Tk kept t) : ∀ (f : Nat) (wi : List Byts8) (t : Tok) (d : Nat), Tk kept t →
    (∀ x m, replR ws pl ln f wi t d = some (x, m) → expT (envR ws ln) pl ln f wi t d = some (x, m)) ∧ (replR ws pl ln f wi t d = none → expT (envR ws ln) pl ln f wi t d = none ∨ ∃ y m, expT (envR ws ln) pl ln f wi t d = some (y, m) ∧ 2048 < y.length)
  | 0, wi, t, d, ht => by
    unfold replR expT
    rw [stays_eq hw ln ht wi]
    split
    · exact ⟨fun x m h => h, fun h => by cases h⟩
    · exact ⟨fun x m h => (by cases h), fun _ => .inl rfl⟩
  | f + 1, wi, t, d, ht => by
    have hb : ∀ u ∈ bodyR ws ln t.text, Tk kept u := fun u hu => by
      unfold bodyR at hu
      split at hu
      · exact hl u hu
      · split at hu
        · exact hv u hu
        · cases hlk : lookR ws t.text with
          | none => rw [hlk] at hu; cases hu
          | some l =>
            rw [hlk] at hu
            exact (hw _ (look_mem hlk)).2 u hu
    have ih := fun u hu d => repl_eq hw pl ln hl hv f (t.text :: wi) u d (hb u hu)
    unfold replR expT
    rw [stays_eq hw ln ht wi]
    split
    · exact ⟨fun x m h => h, fun h => by cases h⟩
    · split
      · exact ⟨fun x m h => (by cases h), fun _ => .inl rfl⟩
      · rw [body_env]
        rw [body_env] at ih
        refine ⟨fun x m h => ?_, fun h => ?_⟩
        · obtain ⟨ys, h1, h2⟩ := loop_some (fun u hu d x m => (ih u hu d).1 x m) h
          rw [List.nil_append] at h2
          rw [h2]
          exact h1
        · rcases loop_none (fun u hu d x m => (ih u hu d).1 x m) (fun u hu d => (ih u hu d).2) h with h1 | ⟨ys, n, h1, h2⟩
          · exact .inl h1
          · exact .inr ⟨ys, n, h1, by simpa using h2⟩
end Go.Proofs.YtdcamcpffiilbaaDoor

/-
  Directives by the document's own way are what the program's do, plain.
-/
namespace Go.Proofs.YtdcamcpffiilbaaDoor
set_option linter.unusedVariables false
set_option linter.unusedSimpArgs false

/-- A part of the one way, and of the other. -/
def relP (p : RP) (q : Part) : Prop := q.turned = p.els ∧ q.counts = p.counts ∧ (p.els = false → q.other = (p.outer && !p.counts))
def PRel : List RP → List Part → Prop
  | [], [] => True
  | p :: ps, q :: qs => relP p q ∧ PRel ps qs
  | _, _ => False
theorem PRel.nil_left {qs : List Part} (h : PRel [] qs) : qs = [] := by
  cases qs with
  | nil => rfl
  | cons q qs => exact h.elim
theorem PRel.snoc : ∀ {ps : List RP} {qs : List Part} {p : RP} {q : Part}, PRel ps qs → relP p q → PRel (ps ++ [p]) (qs ++ [q])
  | [], [], _, _, _, h => ⟨h, trivial⟩
  | [], _ :: _, _, _, h, _ => h.elim
  | _ :: _, [], _, _, h, _ => h.elim
  | _ :: _, _ :: _, _, _, h, h2 => ⟨h.1, PRel.snoc h.2 h2⟩
theorem PRel.unsnoc : ∀ {ps : List RP} {qs : List Part} {p : RP}, PRel (ps ++ [p]) qs → ∃ qs0 q, qs = qs0 ++ [q] ∧ PRel ps qs0 ∧ relP p q
  | [], [], _, h => h.elim
  | [], [q], _, h => ⟨[], q, rfl, trivial, h.1⟩
  | [], _ :: _ :: _, _, h => h.2.elim
  | _ :: _, [], _, h => h.elim
  | a :: ps, b :: qs, p, h => by
    obtain ⟨qs0, q, e, h1, h2⟩ := PRel.unsnoc (ps := ps) h.2
    exact ⟨b :: qs0, q, by rw [e]; rfl, ⟨h.1, h1⟩, h2⟩
/-- Each part knows whether the outer ones count. -/
def OutOk (acc : Bool) : List RP → Prop
  | [] => True
  | p :: ps => p.outer = acc ∧ (p.counts = true → acc = true) ∧ OutOk p.counts ps
theorem OutOk.snoc : ∀ {ps : List RP} {acc : Bool} {p : RP}, OutOk acc ps → p.outer = (acc && countsR ps) → (p.counts = true → p.outer = true) → OutOk acc (ps ++ [p])
  | [], acc, p, _, h1, h2 => by
    have e : p.outer = acc := by rw [h1]; simp [countsR]
    exact ⟨e, fun h => by rw [← e]; exact h2 h, trivial⟩
  | a :: ps, acc, p, h, h1, h2 => by
    refine ⟨h.1, h.2.1, OutOk.snoc h.2.2 ?_ h2⟩
    rw [h1]
    unfold countsR
    rw [List.all_cons]
    have := h.2.1
    cases ha : a.counts
    · simp
    · rw [ha] at this
      rw [this rfl]
      simp
theorem OutOk.unsnoc : ∀ {ps : List RP} {acc : Bool} {p : RP}, OutOk acc (ps ++ [p]) → OutOk acc ps ∧ p.outer = (acc && countsR ps) ∧ (p.counts = true → p.outer = true)
  | [], acc, p, h => ⟨trivial, by rw [h.1]; simp [countsR], fun hc => by rw [h.1]; exact h.2.1 hc⟩
  | a :: ps, acc, p, h => by
    obtain ⟨h1, h2, h3⟩ := OutOk.unsnoc (ps := ps) h.2.2
    refine ⟨⟨h.1, h.2.1, h1⟩, ?_, h3⟩
    rw [h2]
    unfold countsR
    rw [List.all_cons]
    have := h.2.1
    cases ha : a.counts
    · simp
    · rw [ha] at this
      rw [this rfl]
      simp
theorem counts_eq {ps : List RP} {qs : List Part} (hp : PRel ps qs) (ho : OutOk true ps) : countsP qs = countsR ps := by
  rcases List.eq_nil_or_concat ps with rfl | ⟨ps0, p, rfl⟩
  · rw [hp.nil_left]
    rfl
  · rw [List.concat_eq_append] at hp ho ⊢
    obtain ⟨qs0, q, rfl, h1, h2⟩ := hp.unsnoc
    obtain ⟨h3, h4, h5⟩ := ho.unsnoc
    unfold countsP
    rw [List.getLast?_concat]
    simp only
    rw [h2.2.1]
    unfold countsR at h4 ⊢
    rw [List.all_append]
    simp only [List.all_cons, List.all_nil, Bool.and_true]
    cases hc : p.counts
    · simp
    · have := h5 hc
      rw [h4, Bool.true_and] at this
      rw [this]
      rfl
def EnvRel (E : Env) (ws : List Wd) : Prop := ∀ k, k ≠ wLine → E k = (if k = wVers then some (wholeL 100) else lookR ws k)
theorem env_of {E : Env} {ws : List Wd} (h : EnvRel E ws) (ln : Int) : setE E wLine (some (wholeL (ln + 1))) = envR ws ln := by
  funext k
  unfold setE envR
  by_cases hk : k = wLine
  · rw [if_pos hk, if_pos hk]
  · rw [if_neg hk, if_neg hk, h k hk]
theorem envRel_self (ws : List Wd) (ln : Int) : EnvRel (envR ws ln) ws := fun k hk => by
  unfold envR
  rw [if_neg hk]
theorem look_rem (ws : List Wd) (k0 k : Byts8) : lookR (remR ws k0) k = if k = k0 then none else lookR ws k := by
  induction ws with
  | nil => simp [remR, lookR]
  | cons p r ih =>
    unfold remR at ih ⊢
    rw [List.filter_cons]
    by_cases h : p.1 = k0
    · rw [if_neg (by simp [h]), ih]
      by_cases hk : k = k0
      · rw [if_pos hk, if_pos hk]
      · rw [if_neg hk, if_neg hk]
        show _ = if p.1 = k then some p.2 else lookR r k
        rw [if_neg (fun e => hk (by rw [← e, h]))]
    · rw [if_pos (by simp [h])]
      show (if p.1 = k then some p.2 else lookR (List.filter (fun p => !(p.1 == k0)) r) k) = _
      rw [ih]
      show _ = if k = k0 then none else (if p.1 = k then some p.2 else lookR r k)
      by_cases hk : k = k0
      · rw [if_pos hk, if_pos hk, if_neg (fun e => h (by rw [e, hk]))]
      · rw [if_neg hk, if_neg hk]
theorem name_eq {kept : Byts8 → Bool} {t : Tok} (ht : Tk kept t) {x : Byts8} (hx : wordT x = true) : nameR t = x ↔ t.text = x := by
  unfold nameR
  by_cases hk : t.kind = 1
  · rw [if_pos hk]
  · rw [if_neg hk]
    constructor
    · intro e
      subst e
      exact absurd hx (by decide)
    · intro e
      have := ht.word
      rw [e, hx, decide_eq_false hk] at this
      cases this
theorem wordL_of {rest : List Tok} (h : isWordL rest = true) : ∃ t, rest = [t] ∧ t.kind = 1 := by
  match rest with
  | [t] => exact ⟨t, rfl, by simpa [isWordL] using h⟩
  | [] => cases h
  | _ :: _ :: _ => cases h
/-- What is asked of a directive's end. -/
def DirQ (kept : Byts8 → Bool) (r : Option (List Wd × List RP)) (o : Option (Env × List Part)) : Prop :=
  match r with
  | none => o = none
  | some (ws', ps') => ∃ E' qs', o = some (E', qs') ∧ EnvRel E' ws' ∧ WsOk kept ws' ∧ PRel ps' qs' ∧ OutOk true ps'
theorem whole100 : (wholeL 100).length = 1 := by kernel_rfl
theorem w_ne : tIfdef ≠ tIfndef ∧ tIfdef ≠ tElse ∧ tIfdef ≠ tEndif ∧ tIfdef ≠ tVersion ∧ tIfdef ≠ tDefine ∧ tIfdef ≠ tUndef ∧ tIfndef ≠ tElse ∧ tIfndef ≠ tEndif ∧ tElse ≠ tEndif ∧ tElse ≠ tVersion ∧ tElse ≠ tDefine ∧ tElse ≠ tUndef ∧ tEndif ≠ tVersion ∧ tEndif ≠ tDefine ∧ tEndif ≠ tUndef ∧ tVersion ≠ tDefine ∧ tVersion ≠ tUndef ∧ tDefine ≠ tUndef := by decide

theorem open_eq {kept : Byts8 → Bool} {ws : List Wd} {ps : List RP} {qs : List Part} {rest : List Tok} (ln : Int) (hw : WsOk kept ws) (hp : PRel ps qs) (ho : OutOk true ps) (b : Bool) :
    DirQ kept (if countsR ps = true ∧ isWordL rest = false then none else some (ws, ps ++ [⟨false, countsR ps && (!rest.isEmpty && (standsR ws (hd0 rest).text == b)), countsR ps⟩])) ((openP (envR ws ln) qs rest b).map (fun q => (envR ws ln, q))) := by
  unfold openP
  rw [counts_eq hp ho]
  cases hc : countsR ps
  · simp only [Bool.false_eq_true, false_and, if_false, if_true, Bool.false_and]
    exact ⟨_, _, rfl, envRel_self ws ln, hw, hp.snoc ⟨rfl, rfl, fun _ => rfl⟩, ho.snoc (by simp [hc]) (fun h => by cases h)⟩
  · cases hr : isWordL rest
    · simp only [and_self, if_true, Bool.true_eq_false, if_false]
      rfl
    · simp only [Bool.true_eq_false, and_false, if_false]
      obtain ⟨t, rfl, hk⟩ := wordL_of hr
      rw [stands_env ws ln]
      refine ⟨_, _, rfl, envRel_self ws ln, hw, hp.snoc ⟨rfl, ?_, fun _ => ?_⟩, ho.snoc (by simp [hc]) (fun _ => rfl)⟩
      · simp
      · simp [bne]

set_option maxHeartbeats 1000000 in
theorem direct_eq {kept : Byts8 → Bool} (hkv : kept wVers = true) {ws : List Wd} {ps : List RP} {qs : List Part} {l : List Tok} (ln : Int) (first : Bool) (hw : WsOk kept ws) (hp : PRel ps qs) (ho : OutOk true ps) (hl : ∀ t ∈ l, Tk kept t) :
    DirQ kept (directR kept ws ps l first) (obeyP (envR ws ln) qs l first) := by
  obtain ⟨n1, n2, n3, n4, n5, n6, n7, n8, n9, n10, n11, n12, n13, n14, n15, n16, n17, n18⟩ := w_ne
  cases l with
  | nil => exact ⟨_, _, rfl, envRel_self ws ln, hw, hp, ho⟩
  | cons t rest =>
    have ht := hl t List.mem_cons_self
    have hrest : ∀ u ∈ rest, Tk kept u := fun u hu => hl u (List.mem_cons_of_mem _ hu)
    have hd : rest ≠ [] → Tk kept (hd0 rest) := fun hne => by
      cases rest with
      | nil => exact (hne rfl).elim
      | cons u r => exact hrest u List.mem_cons_self
    unfold directR obeyP
    simp only [name_eq ht (show wordT tElse = true by decide), name_eq ht (show wordT tEndif = true by decide), name_eq ht (show wordT tIfdef = true by decide), name_eq ht (show wordT tIfndef = true by decide), name_eq ht (show wordT tVersion = true by decide), name_eq ht (show wordT tDefine = true by decide), name_eq ht (show wordT tUndef = true by decide)]
    by_cases e1 : t.text = tIfdef
    · rw [e1, if_neg (by simp [n2, n3]), if_pos (Or.inl rfl), if_pos rfl, decide_eq_true rfl]
      exact open_eq ln hw hp ho true
    by_cases e2 : t.text = tIfndef
    · rw [e2, if_neg (by simp [n7, n8]), if_pos (Or.inr rfl), if_neg (Ne.symm n1), if_pos rfl, decide_eq_false (Ne.symm n1)]
      exact open_eq ln hw hp ho false
    rw [if_neg e1, if_neg e2]
    by_cases e3 : t.text = tElse
    · rw [if_pos (Or.inl e3), if_pos e3]
      rcases List.eq_nil_or_concat ps with rfl | ⟨ps0, p, rfl⟩
      · rw [hp.nil_left]
        rfl
      · rw [List.concat_eq_append] at hp ho ⊢
        obtain ⟨qs0, q, rfl, h1, h2⟩ := hp.unsnoc
        obtain ⟨h3, h4, h5⟩ := ho.unsnoc
        unfold turnP
        rw [List.getLast?_concat, List.getLast?_concat]
        simp only [List.dropLast_concat, e3, true_and, if_true]
        cases hpe : p.els
        · rw [if_neg (by simp), if_neg (by rw [h2.1, hpe]; simp)]
          have ho2 := h2.2.2 hpe
          refine ⟨_, _, rfl, envRel_self ws ln, hw, h1.snoc ⟨rfl, ho2, fun h => by cases h⟩, h3.snoc h4 (fun h => ?_)⟩
          simp only [Bool.and_eq_true] at h
          exact h.1
        · rw [if_pos rfl, if_pos (by rw [h2.1, hpe])]
          rfl
    by_cases e4 : t.text = tEndif
    · rw [if_pos (Or.inr e4), if_neg e3, if_pos e4]
      rcases List.eq_nil_or_concat ps with rfl | ⟨ps0, p, rfl⟩
      · rw [hp.nil_left]
        rfl
      · rw [List.concat_eq_append] at hp ho ⊢
        obtain ⟨qs0, q, rfl, h1, h2⟩ := hp.unsnoc
        obtain ⟨h3, h4, h5⟩ := ho.unsnoc
        unfold endP
        rw [List.getLast?_concat]
        simp only [List.dropLast_concat]
        rw [if_neg (by simp [e3]), if_neg e3, if_neg (by simp)]
        simp only [List.append_nil]
        exact ⟨_, _, rfl, envRel_self ws ln, hw, h1, h3⟩
    rw [if_neg (by simp [e3, e4]), if_neg (by simp [e1, e2]), if_neg e3, if_neg e4, counts_eq hp ho]
    by_cases hc : countsR ps = false
    · rw [if_pos hc, if_pos hc]
      exact ⟨_, _, rfl, envRel_self ws ln, hw, hp, ho⟩
    rw [if_neg hc, if_neg hc]
    by_cases e5 : t.text = tVersion
    · rw [if_pos e5, if_pos e5]
      have hq : (first = true ∧ rest.length = 1 ∧ (hd0 rest).kind = 2 ∧ (hd0 rest).text = [49, 48, 48]) ↔ (first = true ∧ sameK rest (wholeL 100) = true) := by
        constructor
        · rintro ⟨h1, h2, h3, h4⟩
          refine ⟨h1, ?_⟩
          match rest, h2 with
          | [u], _ =>
            have h9 := (hrest u List.mem_cons_self).hundred
            have h3' : u.kind = 2 := h3
            have h4' : u.text = [49, 48, 48] := h4
            rw [h9, decide_eq_true h3', h4']
            rfl
        · rintro ⟨h1, h2⟩
          have hlen : rest.length = 1 := by
            have h8 := congrArg List.length (of_decide_eq_true h2)
            rw [keys_len, keys_len, whole100] at h8
            exact h8
          match rest, hlen with
          | [u], _ =>
            have h9 := (hrest u List.mem_cons_self).hundred
            rw [h2] at h9
            have h7 := h9.symm
            rw [Bool.and_eq_true, decide_eq_true_eq, beq_iff_eq] at h7
            exact ⟨h1, rfl, h7.1, h7.2⟩
      by_cases hg : first = true ∧ sameK rest (wholeL 100) = true
      · rw [if_pos (hq.2 hg), if_pos hg]
        exact ⟨_, _, rfl, envRel_self ws ln, hw, hp, ho⟩
      · rw [if_neg (fun h => hg (hq.1 h)), if_neg hg]
        rfl
    rw [if_neg e5, if_neg e5]
    by_cases e6 : t.text = tDefine
    · rw [if_pos e6, if_pos e6]
      unfold defineP
      by_cases h0 : rest = []
      · rw [if_pos (Or.inl h0), if_pos (Or.inl h0)]
        rfl
      have hdt := hd h0
      have hf := hdt.fresh
      by_cases h1 : (hd0 rest).kind = 1
      · rw [decide_eq_true h1, Bool.true_and] at hf
        cases hkp : kept (hd0 rest).text
        · rw [hkp] at hf
          rw [← stands_env ws ln]
          cases hs : standsR ws (hd0 rest).text
          · rw [if_neg (by simp [h0, h1]), if_neg (by simp [h0, hf]), if_neg (by simp)]
            refine ⟨_, _, rfl, fun k hk => ?_, fun p hp' => ?_, hp, ho⟩
            · show (if k = (hd0 rest).text then some rest.tail else envR ws ln k) = (if k = wVers then some (wholeL 100) else if (hd0 rest).text = k then some rest.tail else lookR ws k)
              unfold envR
              by_cases hv : k = wVers
              · have hnv : k ≠ (hd0 rest).text := fun e => by
                  unfold standsR at hs
                  rw [← e, hv] at hs
                  simp at hs
                simp only [if_neg hnv, if_pos hv, if_neg hk]
              · by_cases hx : k = (hd0 rest).text
                · simp only [if_neg hv, if_neg hk, if_pos hx, if_pos hx.symm]
                · simp only [if_neg hv, if_neg hk, if_neg hx, if_neg (Ne.symm hx)]
            · rcases List.mem_cons.1 hp' with rfl | hm
              · exact ⟨by rw [hdt.word, decide_eq_true h1], fun u hu => hrest u (List.mem_of_mem_tail hu)⟩
              · exact hw p hm
          · rw [if_pos (by simp), if_neg (by simp [h0, hf]), if_pos rfl]
            rfl
        · rw [hkp] at hf
          rw [if_pos (by simp), if_pos (Or.inr (by rw [hf]; rfl))]
          rfl
      · rw [decide_eq_false h1, Bool.false_and] at hf
        rw [if_pos (Or.inr (Or.inl h1)), if_pos (Or.inr hf)]
        rfl
    rw [if_neg e6, if_neg e6]
    by_cases e7 : t.text = tUndef
    · rw [if_pos e7]
      unfold undefP
      cases hr : isWordL rest
      · rw [if_neg (by simp), if_pos (Or.inl rfl)]
        rfl
      · obtain ⟨u, rfl, hk⟩ := wordL_of hr
        have hu := hrest u List.mem_cons_self
        have hf := hu.fresh
        rw [decide_eq_true hk, Bool.true_and] at hf
        show DirQ kept (if t.text = tUndef ∧ true = true ∧ kept u.text = false then some (remR ws u.text, ps) else none) ((if true = false ∨ freshP u.text = false then none else some (setE (envR ws ln) u.text none)).map (fun F => (F, qs)))
        cases hkp : kept u.text
        · rw [hkp] at hf
          rw [if_pos ⟨e7, rfl, rfl⟩, if_neg (by simp [hf])]
          refine ⟨_, _, rfl, fun k hkl => ?_, fun p hp' => hw p (List.mem_filter.1 hp').1, hp, ho⟩
          show (if k = u.text then none else envR ws ln k) = (if k = wVers then some (wholeL 100) else lookR (remR ws u.text) k)
          rw [look_rem]
          unfold envR
          by_cases hv : k = wVers
          · have hnv : k ≠ u.text := fun e => by
              rw [← e, hv, hkv] at hkp
              cases hkp
            simp only [if_neg hnv, if_pos hv, if_neg hkl]
          · simp only [if_neg hv, if_neg hkl]
        · rw [hkp] at hf
          rw [if_neg (by simp), if_pos (Or.inr (by rw [hf]; rfl))]
          rfl
    · rw [if_neg (by simp [e7]), if_neg e7]
      rfl
end Go.Proofs.YtdcamcpffiilbaaDoor

/-
  A text is told by the document's own way as the program tells it, plain.
-/
namespace Go.Proofs.YtdcamcpffiilbaaDoor
set_option linter.unusedVariables false
set_option linter.unusedSimpArgs false

/-- A line of tokens, told. -/
def lineR (ws : List Wd) : List Tok → List Tok → List Tok × Int × Int
  | out, [] => (out, 0, 0)
  | out, t :: ts => match replR ws t.place t.line 2049 [] t 0 with
    | none => ([], 3, t.place)
    | some (x, _) => if 2048 < out.length + x.length then ([], 3, t.place) else lineR ws (out ++ x) ts
/-- Line by line. -/
def readR (kept : Byts8 → Bool) : Bool → List Wd → List RP → List Tok → List (List Tok) → (List Tok × List RP) × Int × Int
  | _, ws, ps, out, [] => ((out, ps), 0, 0)
  | first, ws, ps, out, l :: ls =>
    if (hd0 l).kind = 4 ∧ (hd0 l).text = [35] then
      match directR kept ws ps l.tail first with
      | none => (([], []), 210, (hd0 l).place)
      | some (ws2, ps2) => readR kept false ws2 ps2 out ls
    else if countsR ps = false then readR kept false ws ps out ls
    else if (lineR ws out l).2.1 ≠ 0 then (([], []), (lineR ws out l).2)
    else readR kept false ws ps (lineR ws out l).1 ls
def beginR : List Wd := [(wGles, wholeL 1)]
/-- What a text is told as. -/
def runR (kept : Byts8 → Bool) (s : Byts8) : List Tok × Int × Int :=
  if (lexP s).2.1 ≠ 0 then ([], (lexP s).2)
  else if (readR kept true beginR [] [] (linesP (lexP s).1)).2.1 ≠ 0 then ([], (readR kept true beginR [] [] (linesP (lexP s).1)).2)
  else if (readR kept true beginR [] [] (linesP (lexP s).1)).1.2 ≠ [] then ([], 210, (s.length : Int))
  else ((readR kept true beginR [] [] (linesP (lexP s).1)).1.1, 0, 0)

theorem line_eq {kept : Byts8 → Bool} {ws : List Wd} (hw : WsOk kept ws) (ln : Int) (hl : ∀ t ∈ wholeL (ln + 1), Tk kept t) (hv : ∀ t ∈ wholeL 100, Tk kept t) : ∀ (l out : List Tok), (∀ t ∈ l, Tk kept t ∧ t.line = ln) → lineP (envR ws ln) out l = lineR ws out l
  | [], out, _ => rfl
  | t :: ts, out, h => by
    obtain ⟨ht, hln⟩ := h t List.mem_cons_self
    obtain ⟨h1, h2⟩ := repl_eq hw t.place ln hl hv 2049 [] t 0 ht
    have ih := fun o => line_eq hw ln hl hv ts o (fun u hu => h u (List.mem_cons_of_mem _ hu))
    unfold lineP lineR toldP
    rw [hln]
    cases hr : replR ws t.place ln 2049 [] t 0 with
    | none =>
      rcases h2 hr with h3 | ⟨y, m, h3, h4⟩
      · rw [h3]
      · rw [h3]
        simp only
        rw [if_neg (by omega)]
    | some p =>
      obtain ⟨x, m⟩ := p
      rw [h1 x m hr]
      simp only
      by_cases hx : out.length + x.length ≤ 2048
      · rw [if_pos hx, if_neg (by omega)]
        exact ih _
      · rw [if_neg hx, if_pos (by omega)]
/-- What is asked of lines. -/
def LnOk (kept : Byts8 → Bool) (l : List Tok) : Prop := l ≠ [] ∧ (∀ t ∈ l, Tk kept t ∧ t.line = (hd0 l).line) ∧ ∀ t ∈ wholeL ((hd0 l).line + 1), Tk kept t
theorem read_eq {kept : Byts8 → Bool} (hkv : kept wVers = true) (hv : ∀ t ∈ wholeL 100, Tk kept t) : ∀ (ls : List (List Tok)) (first : Bool) (ws : List Wd) (E : Env) (ps : List RP) (qs : List Part) (out : List Tok), (∀ l ∈ ls, LnOk kept l) → EnvRel E ws → WsOk kept ws → PRel ps qs → OutOk true ps →
    (readP first E qs out ls).2 = (readR kept first ws ps out ls).2 ∧ (readP first E qs out ls).1.1 = (readR kept first ws ps out ls).1.1 ∧ ((readP first E qs out ls).1.2 = [] ↔ (readR kept first ws ps out ls).1.2 = [])
  | [], first, ws, E, ps, qs, out, _, hE, hw, hp, ho => by
    refine ⟨rfl, rfl, ?_⟩
    show qs = [] ↔ ps = []
    cases ps with
    | nil =>
      have h9 := hp.nil_left
      subst h9
      exact ⟨fun _ => rfl, fun _ => rfl⟩
    | cons p ps =>
      cases qs with
      | nil => exact hp.elim
      | cons q qs => simp
  | l :: ls, first, ws, E, ps, qs, out, hls, hE, hw, hp, ho => by
    obtain ⟨hne, hall, hwl⟩ := hls l List.mem_cons_self
    have hls' : ∀ l ∈ ls, LnOk kept l := fun x hx => hls x (List.mem_cons_of_mem _ hx)
    have hht : Tk kept (hd0 l) := by
      cases l with
      | nil => exact (hne rfl).elim
      | cons t ts => exact (hall t List.mem_cons_self).1
    unfold readP readR
    rw [env_of hE (hd0 l).line]
    by_cases hh : (hd0 l).text = [35]
    · rw [if_pos hh, if_pos ⟨hht.hash hh, hh⟩]
      have hd := direct_eq hkv (hd0 l).line first hw hp ho (l := l.tail) (fun t ht => (hall t (List.mem_of_mem_tail ht)).1)
      unfold DirQ at hd
      cases hr : directR kept ws ps l.tail first with
      | none =>
        rw [hr] at hd
        rw [hd]
        exact ⟨rfl, rfl, ⟨fun _ => rfl, fun _ => rfl⟩⟩
      | some p =>
        obtain ⟨ws2, ps2⟩ := p
        rw [hr] at hd
        obtain ⟨E2, qs2, h1, h2, h3, h4, h5⟩ := hd
        rw [h1]
        exact read_eq hkv hv ls false ws2 E2 ps2 qs2 out hls' h2 h3 h4 h5
    · rw [if_neg hh, if_neg (show ¬ ((hd0 l).kind = 4 ∧ (hd0 l).text = [35]) from fun h => hh h.2), counts_eq hp ho]
      by_cases hc : countsR ps = false
      · rw [if_pos hc, if_pos hc]
        exact read_eq hkv hv ls false ws _ ps qs out hls' (envRel_self ws _) hw hp ho
      · rw [if_neg hc, if_neg hc, line_eq hw (hd0 l).line hwl hv l out hall]
        by_cases he : (lineR ws out l).2.1 ≠ 0
        · rw [if_pos he, if_pos he]
          exact ⟨rfl, rfl, ⟨fun _ => rfl, fun _ => rfl⟩⟩
        · rw [if_neg he, if_neg he]
          exact read_eq hkv hv ls false ws _ ps qs _ hls' (envRel_self ws _) hw hp ho
theorem linesR_ok : ∀ (L : List Tok), (∀ l ∈ linesP L, l ≠ [] ∧ ∀ t ∈ l, t ∈ L ∧ t.line = (hd0 l).line) ∧ (∀ r rs, linesP L = r :: rs → ∀ a, L.head? = some a → hd0 r = a)
  | [] => ⟨fun l hl => (by cases hl), fun r rs h => (by cases h)⟩
  | t :: ts => by
    obtain ⟨ih, ih2⟩ := linesR_ok ts
    unfold linesP
    cases hl : linesP ts with
    | nil =>
      refine ⟨fun l hm => ?_, fun r rs h a ha => ?_⟩
      · simp only [List.mem_singleton] at hm
        subst hm
        refine ⟨by simp, fun u hu => ?_⟩
        simp only [List.mem_singleton] at hu
        subst hu
        exact ⟨List.mem_cons_self, rfl⟩
      · simp only [List.cons.injEq] at h
        obtain ⟨rfl, _⟩ := h
        simpa [hd0] using ha
    | cons r rs =>
      rw [hl] at ih
      have hr := ih r List.mem_cons_self
      simp only
      split
      · rename_i he
        refine ⟨fun l hm => ?_, fun r2 rs2 h a ha => ?_⟩
        · rcases List.mem_cons.1 hm with rfl | hm
          · refine ⟨by simp, fun u hu => ?_⟩
            rcases List.mem_cons.1 hu with rfl | hu
            · exact ⟨List.mem_cons_self, rfl⟩
            · exact ⟨List.mem_cons_of_mem _ (hr.2 u hu).1, by rw [(hr.2 u hu).2]; exact he.symm⟩
          · have h9 := ih l (List.mem_cons_of_mem _ hm)
            exact ⟨h9.1, fun u hu => ⟨List.mem_cons_of_mem _ (h9.2 u hu).1, (h9.2 u hu).2⟩⟩
        · simp only [List.cons.injEq] at h
          obtain ⟨rfl, _⟩ := h
          simpa [hd0] using ha
      · refine ⟨fun l hm => ?_, fun r2 rs2 h a ha => ?_⟩
        · rcases List.mem_cons.1 hm with rfl | hm
          · refine ⟨by simp, fun u hu => ?_⟩
            simp only [List.mem_singleton] at hu
            subst hu
            exact ⟨List.mem_cons_self, rfl⟩
          · have h9 := ih l hm
            exact ⟨h9.1, fun u hu => ⟨List.mem_cons_of_mem _ (h9.2 u hu).1, (h9.2 u hu).2⟩⟩
        · simp only [List.cons.injEq] at h
          obtain ⟨rfl, _⟩ := h
          simpa [hd0] using ha
theorem begin_rel : EnvRel beginE beginR := fun k hk => by
  unfold beginE beginR setE lookR
  by_cases hv : k = wVers
  · rw [if_pos hv, if_pos hv]
  · rw [if_neg hv, if_neg hv]
    by_cases hg : k = wGles
    · rw [if_pos hg, if_pos hg.symm]
    · rw [if_neg hg, if_neg (Ne.symm hg)]
      rfl
/-- The document's own way and the program's are one. -/
theorem run_eq {kept : Byts8 → Bool} (hkv : kept wVers = true) (hv : ∀ t ∈ wholeL 100, Tk kept t) (h1 : ∀ t ∈ wholeL 1, Tk kept t) (s : Byts8) (ht : ∀ t ∈ (lexP s).1, Tk kept t) (hln : ∀ t ∈ (lexP s).1, ∀ u ∈ wholeL (t.line + 1), Tk kept u) : runP s = runR kept s := by
  have hok : ∀ l ∈ linesP (lexP s).1, LnOk kept l := fun l hl => by
    obtain ⟨hne, hall⟩ := (linesR_ok (lexP s).1).1 l hl
    refine ⟨hne, fun t hm => ⟨ht t (hall t hm).1, (hall t hm).2⟩, fun u hu => ?_⟩
    cases l with
    | nil => exact (hne rfl).elim
    | cons t ts => exact hln t (hall t List.mem_cons_self).1 u hu
  have hw : WsOk kept beginR := fun p hp => by
    unfold beginR at hp
    simp only [List.mem_singleton] at hp
    subst hp
    exact ⟨by decide, h1⟩
  obtain ⟨e1, e2, e3⟩ := read_eq hkv hv (linesP (lexP s).1) true beginR beginE [] [] [] hok begin_rel hw trivial trivial
  unfold runP runR
  rw [e1, e2]
  by_cases hn : (readP true beginE [] [] (linesP (lexP s).1)).1.2 = []
  · have hn2 := e3.1 hn
    simp only [hn, hn2, ne_eq, not_true_eq_false, if_false]
  · have hn2 : ¬ (readR kept true beginR [] [] (linesP (lexP s).1)).1.2 = [] := fun h => hn (e3.2 h)
    simp only [hn, hn2, ne_eq, not_false_eq_true, if_true]
end Go.Proofs.YtdcamcpffiilbaaDoor
