/- Several texts in one. -/
import Derived.Test.YtdcamcpffiilbaaDoorXR
import Derived.Test.YtdcamcpffiilbaaDoorZRaJ
import Derived.Test.YtdcamcpffiilbaaDoorXXJ
import Derived.Test.YtdcamcpffiilbaaDoorZX
import Derived.Test.YtdcamcpffiilbaaDoorXM
import Derived.Test.YtdcamcpffiilbaaDoorXE
import Derived.Test.YtdcamcpffiilbaaDoorXF
import Derived.Test.YtdcamcpffiilbaaDoorZM0
import Derived.Deep.QuietTactic
import Derived.BigQuiet
import Derived.Test.YtdcamcpffiilbaaDoorBlk
import Derived.Laws.OwnMore
import Derived.Maps.AppendAt
import Derived.Test.YtdcamcpffiilbaaDoorLem
import Derived.Deep.RegionHeld3
import Derived.Deep.CutRange
import Derived.Deep.DeepCutAuto
import Derived.BigRegion
/-
  Texts and their tokens, plain: blanks put ahead of a token change no token; the text of tokens has these tokens.
-/
namespace Go.Proofs.YtdcamcpffiilbaaDoor
set_option linter.unusedVariables false
set_option linter.unusedSimpArgs false

theorem place_in (d : Nat) : ∀ (l : Byts8) (a ln : Int) (n : Nat) (ts : List Tok), l.length ≤ d → lexA l a ln n = (ts, 0, 0) → ∀ t ∈ ts, a ≤ t.place ∧ t.place < a + l.length := by
  induction d with
  | zero =>
    intro l a ln n ts hd h t ht
    have : l = [] := List.length_eq_zero_iff.1 (by omega)
    subst this
    rw [lexA_nil] at h
    cases h
    simp at ht
  | succ d ih =>
    intro l a ln n ts hd h t ht
    have hne : ts ≠ [] := by intro e; subst e; simp at ht
    obtain ⟨k, z, x, l2, tm, ts', ln2, e1, hz, hz1, hp, hk1, hk2, ht0, _, e2, hrest, _⟩ := lex_first h hne
    have hlen : l.length - skipN l = z + l2.length := by
      have := congrArg List.length e1
      rw [List.length_drop, List.length_append] at this
      omega
    have hsl := skip_le l
    subst e2
    rcases List.mem_cons.1 ht with rfl | ht
    · simp only
      omega
    · have := ih l2 _ _ _ _ (by omega) hrest t ht
      omega

theorem keys_tok {l : Byts8} {k : Int} {z : Nat} (h : l ≠ []) (hp : pieceP l = (k, z)) (hk : k ≠ -1) (a ln : Int) (n : Nat) (ht : (tellP k (l.take z) (l.drop z) n).2 = 0) (hr : (lexA (l.drop z) (a + z) (ln + cntL (l.take z)) (n + 1)).2.1 = 0) :
    (lexA l a ln n).2.1 = 0 ∧ keys (lexA l a ln n).1 = (k, l.take z, (tellP k (l.take z) (l.drop z) n).1) :: keys (lexA (l.drop z) (a + z) (ln + cntL (l.take z)) (n + 1)).1 := by
  rw [lexA_tok h hp hk a ln n ht, if_neg (by simpa using hr)]
  exact ⟨rfl, rfl⟩

/-- Blanks ahead of a token change no token. -/
theorem ins {more : Byts8} (hm : ∀ b ∈ more, isBl b = true) (hmn : more ≠ []) (d : Nat) : ∀ (l : Byts8) (a ln : Int) (n : Nat) (ts : List Tok), l.length ≤ d → lexA l a ln n = (ts, 0, 0) → ∀ (j kk : Nat) (hj : j < ts.length), ts[j].place = a + kk → ∀ a' ln' : Int,
    (lexA (l.take kk ++ (more ++ l.drop kk)) a' ln' n).2.1 = 0 ∧ keys (lexA (l.take kk ++ (more ++ l.drop kk)) a' ln' n).1 = keys ts := by
  induction d with
  | zero =>
    intro l a ln n ts hd h j kk hj
    have : l = [] := List.length_eq_zero_iff.1 (by omega)
    subst this
    rw [lexA_nil] at h
    cases h
    simp at hj
  | succ d ih =>
    intro l a ln n ts hd h j kk hj hpl a' ln'
    have hne : ts ≠ [] := by intro e; subst e; simp at hj
    obtain ⟨k, z, x, l2, tm, ts', ln2, e1, hz, hz1, hp, hk1, hk2, ht0, htm, e2, hrest, hwhole⟩ := lex_first h hne
    have hlen : l.length - skipN l = z + l2.length := by
      have := congrArg List.length e1
      rw [List.length_drop, List.length_append] at this
      omega
    have hsl := skip_le l
    cases j with
    | zero =>
      have hkk : kk = skipN l := by
        subst e2
        simp only [List.getElem_cons_zero] at hpl
        omega
      subst hkk
      have hd0 : l.drop (skipN l) ≠ [] := by
        intro e
        have := congrArg List.length e
        rw [List.length_drop, List.length_nil] at this
        omega
      obtain ⟨a2, ln3, h2⟩ := gap_pass hm hmn l a' ln' n hd0
      rw [h2, e1]
      have := lexA_shift (x ++ l2) a2 ln3 (a + skipN l) (ln + cntL (l.take (skipN l))) n
      rw [hwhole] at this
      exact this
    | succ j =>
      have hpl' : ∃ h : j < ts'.length, ts'[j].place = a + kk := by
        subst e2
        simp only [List.getElem_cons_succ] at hpl
        exact ⟨by simpa using hj, hpl⟩
      obtain ⟨hj', hpj⟩ := hpl'
      have hin := place_in l2.length l2 _ _ _ _ (Nat.le_refl _) hrest ts'[j] (List.getElem_mem hj')
      obtain ⟨q, hq⟩ : ∃ q, kk = skipN l + z + q := ⟨kk - (skipN l + z), by omega⟩
      have hql : q < l2.length := by omega
      obtain ⟨a2, ln3, h2⟩ := skip_loc l kk (more ++ l.drop kk) a' ln' n (by omega) (by omega)
      have e3 : l.drop kk = l2.drop q := by
        rw [hq, Nat.add_assoc, ← List.drop_drop, e1, ← hz, List.drop_append]
        simp
      have e4 : (l.drop (skipN l)).take (kk - skipN l) = x ++ l2.take q := by
        rw [e1, hq, show skipN l + z + q - skipN l = z + q by omega, ← hz, List.take_append]
        simp
        exact List.take_of_length_le (by omega)
      rw [h2, e4, e3, List.append_assoc]
      clear h2
      have hx : ∃ c x', x = c :: x' := by
        cases x with
        | nil => simp at hz; omega
        | cons c x' => exact ⟨c, x', rfl⟩
      obtain ⟨c, x', rfl⟩ := hx
      have hnice : Nice l2 (l2.take q ++ (more ++ l2.drop q)) := by
        cases q with
        | zero =>
          refine nice_blank (.inl ?_)
          cases more with
          | nil => exact absurd rfl hmn
          | cons b r => exact hm b (by simp)
        | succ q =>
          refine nice_same ?_
          cases l2 with
          | nil => simp at hql
          | cons b r => rfl
      have hp2 := tok_loc hnice (by rw [hz]; exact hp) hk1 hk2
      have htk : (c :: x' ++ (l2.take q ++ (more ++ l2.drop q))).take z = c :: x' := by rw [← hz]; exact List.take_left
      have hdk : (c :: x' ++ (l2.take q ++ (more ++ l2.drop q))).drop z = l2.take q ++ (more ++ l2.drop q) := by rw [← hz]; exact List.drop_left
      have htn := tell_nice hnice ht0
      have hI := ih l2 _ _ _ _ (by omega) hrest j q hj' (by rw [hpj, hq]; push_cast; omega) (a2 + z) (ln3 + cntL (c :: x'))
      have hfin := keys_tok (l := c :: x' ++ (l2.take q ++ (more ++ l2.drop q))) (by simp) (by rw [hz] at hp2; exact hp2) hk1 a2 ln3 n (by rw [htk, hdk, htn]; exact ht0) (by rw [htk, hdk]; exact hI.1)
      rw [htk, hdk, htn, hI.2, ← htm] at hfin
      rw [e2]
      exact hfin

/-- The text of tokens. -/
def joinT : List Tok → Byts8
  | [] => []
  | [t] => t.text
  | t :: u :: r => t.text ++ (if t.line < u.line then 10 else 32) :: joinT (u :: r)
theorem sep_bl (t u : Tok) : isBl (if t.line < u.line then 10 else 32) = true := by
  split <;> rfl
/-- Each token of a text is told alone. -/
def Alone (t : Tok) : Prop := ∃ (c : UInt8) (x : Byts8), t.text = c :: x ∧ t.kind ≠ -1 ∧ t.kind ≠ -2 ∧ pieceP (c :: x) = (t.kind, (c :: x).length) ∧ ∀ n, n < 2048 → tellP t.kind t.text [] n = (t.num, 0)
theorem tell_ahead {k : Int} {t y : Byts8} {n : Nat} (h : (tellP k t y n).2 = 0) : n ≠ 2048 ∧ ∀ m, m ≠ 2048 → tellP k t y m = tellP k t y n := by
  have h1 : ¬ (decide (k = -2) || spoilt k t y) = true := fun e => by
    unfold tellP at h
    rw [if_pos e] at h
    cases h
  have h2 : n ≠ 2048 := fun e => by
    unfold tellP at h
    rw [if_neg h1, if_pos e] at h
    cases h
  refine ⟨h2, fun m hm => ?_⟩
  unfold tellP
  rw [if_neg h1, if_neg h1, if_neg h2, if_neg hm]
theorem alone_all (d : Nat) : ∀ (l : Byts8) (a ln : Int) (n : Nat) (ts : List Tok), l.length ≤ d → n ≤ 2048 → lexA l a ln n = (ts, 0, 0) → (∀ t ∈ ts, Alone t) ∧ n + ts.length ≤ 2048 := by
  induction d with
  | zero =>
    intro l a ln n ts hd hn h
    have : l = [] := List.length_eq_zero_iff.1 (by omega)
    subst this
    rw [lexA_nil] at h
    cases h
    exact ⟨by simp, by simpa using hn⟩
  | succ d ih =>
    intro l a ln n ts hd hn h
    by_cases hne : ts = []
    · subst hne
      exact ⟨by simp, by simpa using hn⟩
    obtain ⟨k, z, x, l2, tm, ts', ln2, e1, hz, hz1, hp, hk1, hk2, ht0, htm, e2, hrest, _⟩ := lex_first h hne
    have hlen : l.length - skipN l = z + l2.length := by
      have := congrArg List.length e1
      rw [List.length_drop, List.length_append] at this
      omega
    have hta := tell_ahead ht0
    have hI := ih l2 _ _ _ _ (by omega) (by omega) hrest
    subst e2
    refine ⟨fun t ht => ?_, by simp only [List.length_cons]; omega⟩
    rcases List.mem_cons.1 ht with rfl | ht
    · cases x with
      | nil => simp at hz; omega
      | cons c x =>
        have hnice : Nice l2 [] := nice_blank (.inr rfl)
        refine ⟨c, x, rfl, hk1, hk2, ?_, fun m hm => ?_⟩
        · have := tok_loc hnice (by rw [hz]; exact hp) hk1 hk2
          rw [List.append_nil] at this
          exact this
        · have e := tell_nice hnice ht0
          simp only
          rw [(tell_ahead (by rw [e]; exact ht0)).2 m (by omega), e, htm]
          rw [← ht0]
    · exact hI.1 t ht
/-- A token alone. -/
theorem lex_alone {t : Tok} (h : Alone t) (hl : t.text.length ≤ 8192) : lexP t.text = ([⟨t.kind, t.text, t.num, 0, 0⟩], 0, 0) := by
  obtain ⟨c, x, e, h1, h2, hp, ht⟩ := h
  unfold lexP
  rw [if_neg (by omega)]
  have ht0 := ht 0 (by omega)
  rw [e] at ht0 ⊢
  have hz : (c :: x).take (c :: x).length = c :: x := List.take_length
  have hd : (c :: x).drop (c :: x).length = [] := List.drop_length
  rw [lexA_tok (by simp) hp h1 0 0 0 (by rw [hz, hd, ht0]), hz, hd, lexA_nil, ht0]
  rfl
/-- The text of tokens has these tokens. -/
theorem lex_join : ∀ (ts : List Tok) (a ln : Int) (n : Nat), (∀ t ∈ ts, Alone t) → n + ts.length ≤ 2048 → (lexA (joinT ts) a ln n).2.1 = 0 ∧ keys (lexA (joinT ts) a ln n).1 = keys ts
  | [], a, ln, n, _, _ => by
    rw [joinT, lexA_nil]
    exact ⟨rfl, rfl⟩
  | [t], a, ln, n, h, hn => by
    obtain ⟨c, x, e, h1, h2, hp, ht⟩ := h t (by simp)
    have hz : (c :: x).take (c :: x).length = c :: x := List.take_length
    have hd : (c :: x).drop (c :: x).length = [] := List.drop_length
    have ht0 := ht n (by simp only [List.length_cons, List.length_nil] at hn; omega)
    rw [joinT]
    rw [e] at ht0 ⊢
    have := keys_tok (l := c :: x) (by simp) hp h1 a ln n (by rw [hz, hd, ht0]) (by rw [hd, lexA_nil])
    rw [hz, hd, lexA_nil, ht0] at this
    refine ⟨this.1, this.2.trans ?_⟩
    simp [keys, key, e]
  | t :: u :: r, a, ln, n, h, hn => by
    obtain ⟨c, x, e, h1, h2, hp, ht⟩ := h t (by simp)
    obtain ⟨c2, x2, f, g1, g2, gp, gt⟩ := h u (by simp)
    simp only [List.length_cons] at hn
    have ht0 := ht n (by omega)
    rw [joinT, e]
    rw [e] at ht0
    have hnice : Nice [] ((if t.line < u.line then 10 else 32) :: joinT (u :: r)) := nice_blank (.inl (sep_bl t u))
    have hp2 := tok_loc hnice (by rw [List.append_nil]; exact hp) h1 h2
    have htn := tell_nice (k := t.kind) (t := c :: x) (n := n) hnice (by rw [ht0])
    have htk : (c :: x ++ (if t.line < u.line then 10 else 32) :: joinT (u :: r)).take (c :: x).length = c :: x := List.take_left
    have hdk : (c :: x ++ (if t.line < u.line then 10 else 32) :: joinT (u :: r)).drop (c :: x).length = (if t.line < u.line then 10 else 32) :: joinT (u :: r) := List.drop_left
    have hb : begN isBl (joinT (u :: r)) = false := by
      have hu : begN isBl (c2 :: x2) = false := tok_beg gp g1
      cases r with
      | nil => rw [joinT, f]; exact hu
      | cons v r => rw [joinT, f]; exact hu
    obtain ⟨a2, ln2, hps⟩ := blanks_pass (more := [if t.line < u.line then 10 else 32]) (l := joinT (u :: r)) (fun b hb => by simp at hb; subst hb; exact sep_bl t u) (by simp) hb (a + (c :: x).length) (ln + cntL (c :: x)) (n + 1)
    have hI := lex_join (u :: r) a2 ln2 (n + 1) (fun v hv => h v (by simp [List.mem_cons.1 hv])) (by simp only [List.length_cons]; omega)
    have hps' : lexA ((if t.line < u.line then 10 else 32) :: joinT (u :: r)) (a + (c :: x).length) (ln + cntL (c :: x)) (n + 1) = lexA (joinT (u :: r)) a2 ln2 (n + 1) := hps
    have := keys_tok (by simp) hp2 h1 a ln n (by rw [htk, hdk, htn, ht0]) (by rw [htk, hdk, hps']; exact hI.1)
    rw [htk, hdk, htn, ht0, hps', hI.2] at this
    refine ⟨this.1, this.2.trans ?_⟩
    simp [keys, key, e]
end Go.Proofs.YtdcamcpffiilbaaDoor

/-
  Tokens of a text are what the document's own way asks of tokens, plain; an int's token; lines of tokens, cut.
-/
namespace Go.Proofs.YtdcamcpffiilbaaDoor
set_option linter.unusedVariables false
set_option linter.unusedSimpArgs false

theorem lt_beg {l : Byts8} (h : begN isLt l = true) : begN isBl l = false ∧ pre2 47 47 l = false ∧ pre2 47 42 l = false := by
  cases l with
  | nil => cases h
  | cons b r =>
    have hb : isLt b = true := h
    have h47 : b ≠ 47 := fun e => by
      rw [e] at hb
      revert hb
      decide
    have hbl : isBl b = false := by
      unfold isLt at hb
      unfold isBl
      simp only [Bool.or_eq_true, Bool.and_eq_true, decide_eq_true_eq] at hb
      simp
      omega
    have hp : ∀ y, pre2 47 y (b :: r) = false := fun y => by
      cases r with
      | nil => exact pre2_one _ _ _
      | cons c r =>
        rw [pre2_cons, show ((47 : UInt8) == b) = false from beq_eq_false_iff_ne.2 (fun e => h47 e.symm)]
        rfl
    exact ⟨hbl, hp 47, hp 42⟩
theorem piece_one (l : Byts8) : begN isLt l = decide ((pieceP l).1 = 1) := by
  cases h : begN isLt l with
  | true =>
    obtain ⟨h1, h2, h3⟩ := lt_beg h
    unfold pieceP
    rw [if_neg (by rw [h1]; decide), if_neg (by rw [h2]; decide), if_neg (by rw [h3]; decide), if_pos h]
    rfl
  | false =>
    refine (decide_eq_false ?_).symm
    unfold pieceP
    split
    · simp
    split
    · simp
    split
    · unfold comP
      split <;> simp
    rw [if_neg (by rw [h]; decide)]
    split
    · rcases numP_kind l with e | e <;> rw [e] <;> decide
    · rcases signP_kind l with e | e <;> rw [e] <;> decide
theorem lex_hund : lexP [49, 48, 48] = ([⟨2, [49, 48, 48], 6553600, 0, 0⟩], 0, 0) := by kernel_rfl
theorem lex_hash : lexP [35] = ([⟨4, [35], 0, 0, 0⟩], 0, 0) := by kernel_rfl
theorem keys_hund : keys (wholeL 100) = [(2, [49, 48, 48], 6553600)] := by kernel_rfl
theorem tk_alone {t : Tok} (h : Alone t) (hl : t.text.length ≤ 8192) : Tk keptP t := by
  have hx := lex_alone h hl
  obtain ⟨c, x, e, h1, h2, hp, ht⟩ := h
  refine ⟨?_, ?_, ?_, ?_⟩
  · unfold wordT
    rw [piece_one, e, hp]
  · unfold freshP keptP
    rw [hx]
    simp only [isWordL, hd0, List.headD_cons, BEq.rfl, Bool.and_true]
    rw [Bool.and_assoc, Bool.not_or]
  · unfold sameK
    rw [keys_hund]
    cases hk : decide (t.kind = 2) with
    | false =>
      rw [Bool.false_and]
      refine decide_eq_false (fun hc => ?_)
      simp only [keys, key, List.map_cons, List.map_nil, List.cons.injEq, Prod.mk.injEq, and_true] at hc
      exact of_decide_eq_false hk hc.1
    | true =>
      rw [Bool.true_and]
      have hk2 := of_decide_eq_true hk
      cases ht2 : (t.text == [49, 48, 48]) with
      | false =>
        refine decide_eq_false (fun hc => ?_)
        simp only [keys, key, List.map_cons, List.map_nil, List.cons.injEq, Prod.mk.injEq, and_true] at hc
        exact beq_eq_false_iff_ne.1 ht2 hc.2.1
      | true =>
        have ht3 : t.text = [49, 48, 48] := eq_of_beq ht2
        rw [ht3, lex_hund] at hx
        refine decide_eq_true ?_
        simp only [Prod.mk.injEq, List.cons.injEq, Tok.mk.injEq, and_true] at hx
        simp only [keys, key, List.map_cons, List.map_nil, List.cons.injEq, Prod.mk.injEq, and_true]
        exact ⟨hk2, ht3, hx.2.2.symm⟩
  · intro hh
    rw [hh, lex_hash] at hx
    simp only [Prod.mk.injEq, List.cons.injEq, Tok.mk.injEq, and_true, true_and] at hx
    exact hx.1.symm
/-- Every token of every text. -/
theorem tk_lex (s : Byts8) : ∀ t ∈ (lexP s).1, Tk keptP t := fun t ht => by
  have hok := (lexP_ok s).2 t ht
  refine tk_alone ?_ hok.1
  by_cases hl : 8192 < s.length
  · unfold lexP at ht
    rw [if_pos hl] at ht
    cases ht
  · have hq : lexP s = lexA s 0 0 0 := by unfold lexP; rw [if_neg hl]
    rw [hq] at ht
    have hf := lexA_form s 0 0 0
    obtain ⟨r, hr⟩ : ∃ r : List Tok × Int × Int, lexA s 0 0 0 = r := ⟨_, rfl⟩
    obtain ⟨L, e, p⟩ := r
    rw [hr] at ht hf
    simp only at ht hf
    have he : e = 0 := Classical.byContradiction fun hc => by
      rw [hf.2 hc] at ht
      cases ht
    have hp : p = 0 := hf.1 he
    subst he hp
    exact (alone_all s.length s 0 0 0 L (Nat.le_refl _) (by omega) hr).1 t ht
theorem kept_vers : keptP wVers = true := by decide
/-- What a text is told as, the document's way. -/
theorem run_doc (s : Byts8) : runP s = runR keptP s := run_eq kept_vers (tk_lex _) (tk_lex _) s (tk_lex s) (fun t _ => tk_lex _)

theorem dd_small {u : Nat} (h : u < 10) : Lib.decDigits u = [UInt8.ofNat (48 + u)] := by rw [Lib.decDigits, dif_pos h]
theorem dd_big {u : Nat} (h : ¬ u < 10) : Lib.decDigits u = Lib.decDigits (u / 10) ++ [UInt8.ofNat (48 + u % 10)] := by rw [Lib.decDigits, dif_neg h]
theorem dg_nat {d : Nat} (h : d < 10) : (UInt8.ofNat (48 + d)).toNat = 48 + d := by
  simp
  omega
theorem dg_is {d : Nat} (h : d < 10) : isDg (UInt8.ofNat (48 + d)) = true := by
  unfold isDg
  rw [dg_nat h]
  simp
  omega
theorem dd_facts (u : Nat) : (∀ b ∈ Lib.decDigits u, isDg b = true) ∧ Lib.decDigits u ≠ [] ∧ (1 ≤ u → begN (fun c => decide (c.toNat = 48)) (Lib.decDigits u) = false) ∧ (u ≤ 32767 → valP (Lib.decDigits u) = u) := by
  induction u using Nat.strongRecOn with
  | _ u ih =>
    by_cases h : u < 10
    · rw [dd_small h]
      refine ⟨fun b hb => ?_, by simp, fun h1 => ?_, fun _ => ?_⟩
      · rw [List.mem_singleton] at hb
        rw [hb]
        exact dg_is h
      · show decide ((UInt8.ofNat (48 + u)).toNat = 48) = false
        rw [dg_nat h]
        exact decide_eq_false (by omega)
      · show valF 0 (UInt8.ofNat (48 + u)) = u
        unfold valF
        rw [dg_nat h]
        omega
    · obtain ⟨i1, i2, i3, i4⟩ := ih (u / 10) (by omega)
      have hd : u % 10 < 10 := by omega
      rw [dd_big h]
      refine ⟨fun b hb => ?_, by simp, fun h1 => ?_, fun h2 => ?_⟩
      · rcases List.mem_append.1 hb with hb | hb
        · exact i1 b hb
        · rw [List.mem_singleton] at hb
          rw [hb]
          exact dg_is hd
      · have := i3 (by omega)
        cases hq : Lib.decDigits (u / 10) with
        | nil => exact absurd hq i2
        | cons c r =>
          rw [hq] at this
          exact this
      · have i5 := i4 (by omega)
        unfold valP at i5 ⊢
        rw [List.foldl_append, i5]
        show valF _ _ = _
        unfold valF
        rw [dg_nat hd]
        omega
theorem runN_full {p : UInt8 → Bool} : ∀ {l : Byts8}, (∀ b ∈ l, p b = true) → runN p l = l.length
  | [], _ => rfl
  | c :: l, h => by
    rw [runN, if_pos (h c List.mem_cons_self), runN_full (fun b hb => h b (List.mem_cons_of_mem _ hb))]
    rfl
/-- An int's token. -/
theorem whole_tok (u : Nat) (h1 : 1 ≤ u) (h2 : u ≤ 8193) : wholeL (u : Int) = [⟨2, Lib.decDigits u, (u : Int) * 65536, 0, 0⟩] := by
  obtain ⟨f1, f2, f3, f4⟩ := dd_facts u
  have f3 := f3 h1
  have f4 := f4 (by omega)
  have hlen : (Lib.decDigits u).length ≤ 21 := by
    have := Lib.itoa_length_le (u : Int) (by omega) (by omega)
    unfold Lib.itoa at this
    rw [if_neg (by omega)] at this
    exact this
  have hA : Alone ⟨2, Lib.decDigits u, (u : Int) * 65536, 0, 0⟩ := by
    have hr := runN_full f1
    cases hd : Lib.decDigits u with
    | nil => exact absurd hd f2
    | cons c x =>
      rw [hd] at f1 f3 f4 hr
      have hc : isDg c = true := f1 c List.mem_cons_self
      have hc2 := hc
      unfold isDg at hc2
      simp only [Bool.and_eq_true, decide_eq_true_eq] at hc2
      refine ⟨c, x, rfl, (show (2 : Int) ≠ -1 by decide), (show (2 : Int) ≠ -2 by decide), ?_, fun n hn => ?_⟩
      · have b1 : begN isBl (c :: x) = false := by
          show isBl c = false
          unfold isBl
          simp
          omega
        have b2 : ∀ y, pre2 47 y (c :: x) = false := fun y => by
          have : c ≠ 47 := fun e => by rw [e] at hc2; revert hc2; decide
          cases x with
          | nil => exact pre2_one _ _ _
          | cons d x =>
            rw [pre2_cons, show ((47 : UInt8) == c) = false from beq_eq_false_iff_ne.2 (fun e => this e.symm)]
            rfl
        have b3 : begN isLt (c :: x) = false := by
          show isLt c = false
          unfold isLt
          simp
          omega
        have b4 : begN isDg (c :: x) = true := hc
        unfold pieceP
        rw [if_neg (by rw [b1]; decide), if_neg (by rw [b2]; decide), if_neg (by rw [b2]; decide), if_neg (by rw [b3]; decide), if_pos (by rw [b4]; rfl)]
        unfold numP
        rw [hr, List.drop_length]
        rfl
      · have hs : spoilt 2 (c :: x) [] = false := by
          unfold spoilt
          rw [if_pos rfl, f3, Bool.and_false]
          rfl
        show tellP 2 (c :: x) [] n = _
        unfold tellP
        rw [hs, if_neg (by decide), if_neg (by omega)]
        unfold measP
        rw [if_neg (by decide), if_pos rfl, f4, if_pos (by omega)]
        unfold rawI
        simp only [Prod.mk.injEq, and_true]
        try unfold clampI
        omega
  unfold wholeL
  rw [show Lib.itoa (u : Int) = Lib.decDigits u by unfold Lib.itoa; rw [if_neg (by omega)]; rfl, lex_alone hA (by simp only; omega)]
/-- A line ahead of what is no longer of that line. -/
theorem lines_cut (n : Int) : ∀ (A B : List Tok), A ≠ [] → (∀ t ∈ A, t.line = n) → (∀ b, B.head? = some b → b.line ≠ n) → linesP (A ++ B) = A :: linesP B
  | [], B, h, _, _ => absurd rfl h
  | [t], B, _, h, hb => by
    rw [List.singleton_append, linesP_cons]
    cases B with
    | nil => rfl
    | cons b B =>
      have h2 := (linesR_ok (b :: B)).2
      cases hl : linesP (b :: B) with
      | nil =>
        exfalso
        rw [linesP_cons] at hl
        unfold linesC at hl
        split at hl
        · cases hl
        · split at hl <;> cases hl
      | cons r rs =>
        have h3 := h2 r rs hl b rfl
        exact linesC_neg _ (by rw [h3, h t List.mem_cons_self]; exact fun e => hb b rfl e.symm)
  | t :: u :: A, B, _, h, hb => by
    have ih := lines_cut n (u :: A) B (by simp) (fun x hx => h x (List.mem_cons_of_mem _ hx)) hb
    rw [List.cons_append, linesP_cons, ih]
    exact linesC_pos _ ((h t List.mem_cons_self).trans (h u (by simp)).symm)
end Go.Proofs.YtdcamcpffiilbaaDoor

/-
  The document's words and parts in memory; its find, stands, counts, word.
-/
namespace Go.Proofs.YtdcamcpffiilbaaDoor
open Go.RowKit
set_option linter.unusedVariables false
set_option linter.unusedSimpArgs false

theorem cellExt {w w' : World} (hx : Ext w w') {b j : Nat} {u : Value} (hu : w.cell? ⟨b, j, none⟩ = some u) : w'.cell? ⟨b, j, none⟩ = some u := by
  rw [hx.cell (p := ⟨b, j, none⟩) (World.block_lt_of_cell? w _ hu)]
  exact hu
theorem cellOut {T : Nat → Prop} {w w' : World} (ho : Out T w w') {b j : Nat} {u : Value} (hb : ¬ T b) (hu : w.cell? ⟨b, j, none⟩ = some u) : w'.cell? ⟨b, j, none⟩ = some u := by
  rw [World.cell?_of_block (w := w) (ho.block b (World.block_lt_of_cell? w _ hu) hb)]
  exact hu
/-- A word at a place in memory, T's blocks aside. -/
structure WdAt (T : Nat → Prop) (w : World) (b off : Nat) (p : Wd) : Prop where
  name : w.cell? ⟨b, off, none⟩ = some (.string ⟨p.1.toArray⟩)
  toks : ∃ ao cap, w.cell? ⟨b, off + 1, none⟩ = some (.slice ao p.2.length cap) ∧ TF T w (.slice ao p.2.length cap) p.2
  far : ¬ T b
section
variable {T T' : Nat → Prop} {w w' : World} {b off : Nat} {p : Wd}
theorem WdAt.ext (h : WdAt T w b off p) (hx : Ext w w') : WdAt T w' b off p := by
  obtain ⟨h1, ⟨ao, cap, h2, h3⟩, h4⟩ := h
  exact ⟨cellExt hx h1, ⟨ao, cap, cellExt hx h2, h3.ext hx⟩, h4⟩
theorem WdAt.out (h : WdAt T w b off p) (ho : Out T w w') : WdAt T w' b off p := by
  obtain ⟨h1, ⟨ao, cap, h2, h3⟩, h4⟩ := h
  exact ⟨cellOut ho h4 h1, ⟨ao, cap, cellOut ho h4 h2, h3.out ho⟩, h4⟩
theorem WdAt.less (h : WdAt T w b off p) (hs : ∀ b, T' b → T b ∨ w.heap.size ≤ b) : WdAt T' w b off p := by
  obtain ⟨h1, ⟨ao, cap, h2, h3⟩, h4⟩ := h
  have hb := World.block_lt_of_cell? w _ h1
  refine ⟨h1, ⟨ao, cap, h2, ?_⟩, fun e => (hs b e).elim h4 (fun h => ?_)⟩
  · refine ⟨h3.1, fun b2 off2 n2 cap2 e hl ht => ?_⟩
    rcases hs b2 ht with h5 | h5
    · exact h3.2 b2 off2 n2 cap2 e hl h5
    · obtain ⟨b3, off3, e3, c⟩ := h3.1.at 0 hl
      have h6 := World.block_lt_of_cell? w _ c.kind
      cases e
      cases e3
      simp only at h6
      omega
  · simp only at hb
    omega
end
/-- The slice value v holds the words ws, T's blocks aside. -/
def WR (T : Nat → Prop) (w : World) (v : Value) (ws : List Wd) : Prop := ∃ ao cap, v = .slice ao ws.length cap ∧ (ao = none → cap = 0) ∧ ws.length ≤ cap ∧ cap ≤ maxLen ∧ ∀ i (h : i < ws.length), ∃ b off, ao = some ⟨b, off, none⟩ ∧ WdAt T w b (off + i * 2) ws[i]
section
variable {T T' : Nat → Prop} {w w' : World} {v : Value} {ws : List Wd}
theorem WR.each {T2 : Nat → Prop} (h : WR T w v ws) (hf : ∀ b off p, WdAt T w b off p → WdAt T2 w' b off p) : WR T2 w' v ws := by
  obtain ⟨ao, cap, e, h1, h2, h3, h4⟩ := h
  refine ⟨ao, cap, e, h1, h2, h3, fun i hi => ?_⟩
  obtain ⟨b, off, e2, c⟩ := h4 i hi
  exact ⟨b, off, e2, hf _ _ _ c⟩
theorem WR.ext (h : WR T w v ws) (hx : Ext w w') : WR T w' v ws := h.each (fun _ _ _ c => c.ext hx)
theorem WR.out (h : WR T w v ws) (ho : Out T w w') : WR T w' v ws := h.each (fun _ _ _ c => c.out ho)
theorem WR.less (h : WR T w v ws) (hs : ∀ b, T' b → T b ∨ w.heap.size ≤ b) : WR T' w v ws := h.each (fun _ _ _ c => c.less hs)
theorem WR.at {ao : Option Addr} {n cap : Nat} (h : WR T w (.slice ao n cap) ws) (i : Nat) (hi : i < ws.length) : ∃ b off, ao = some ⟨b, off, none⟩ ∧ WdAt T w b (off + i * 2) ws[i] := by
  obtain ⟨ao', cap', e, _, _, _, h4⟩ := h
  cases e
  exact h4 i hi
end
/-- A part at a place in memory. -/
structure PtAt (T : Nat → Prop) (w : World) (b off : Nat) (p : RP) : Prop where
  els : w.cell? ⟨b, off, none⟩ = some (.bool p.els)
  counts : w.cell? ⟨b, off + 1, none⟩ = some (.bool p.counts)
  outer : w.cell? ⟨b, off + 2, none⟩ = some (.bool p.outer)
  far : ¬ T b
/-- The slice value v holds the parts ps. -/
def PR (T : Nat → Prop) (w : World) (v : Value) (ps : List RP) : Prop := ∃ ao cap, v = .slice ao ps.length cap ∧ (ao = none → cap = 0) ∧ ps.length ≤ cap ∧ cap ≤ maxLen ∧ ∀ i (h : i < ps.length), ∃ b off, ao = some ⟨b, off, none⟩ ∧ PtAt T w b (off + i * 3) ps[i]
section
variable {T T' : Nat → Prop} {w w' : World} {v : Value} {ps : List RP}
theorem PR.each {T2 : Nat → Prop} (h : PR T w v ps) (hf : ∀ b off p, PtAt T w b off p → PtAt T2 w' b off p) : PR T2 w' v ps := by
  obtain ⟨ao, cap, e, h1, h2, h3, h4⟩ := h
  refine ⟨ao, cap, e, h1, h2, h3, fun i hi => ?_⟩
  obtain ⟨b, off, e2, c⟩ := h4 i hi
  exact ⟨b, off, e2, hf _ _ _ c⟩
theorem PR.ext (h : PR T w v ps) (hx : Ext w w') : PR T w' v ps := h.each (fun _ _ _ c => ⟨cellExt hx c.els, cellExt hx c.counts, cellExt hx c.outer, c.far⟩)
theorem PR.out (h : PR T w v ps) (ho : Out T w w') : PR T w' v ps := h.each (fun _ _ _ c => ⟨cellOut ho c.far c.els, cellOut ho c.far c.counts, cellOut ho c.far c.outer, c.far⟩)
theorem PR.less (h : PR T w v ps) (hs : ∀ b, T' b → T b ∨ w.heap.size ≤ b) : PR T' w v ps := h.each (fun b _ _ c => ⟨c.els, c.counts, c.outer, fun e => (hs b e).elim c.far (fun h => by
  have hb := World.block_lt_of_cell? w _ c.els
  simp only at hb
  omega)⟩)
theorem PR.at {ao : Option Addr} {n cap : Nat} (h : PR T w (.slice ao n cap) ps) (i : Nat) (hi : i < ps.length) : ∃ b off, ao = some ⟨b, off, none⟩ ∧ PtAt T w b (off + i * 3) ps[i] := by
  obtain ⟨ao', cap', e, _, _, _, h4⟩ := h
  cases e
  exact h4 i hi
theorem PR.nil (T : Nat → Prop) (w : World) : PR T w (.slice none 0 0) [] := ⟨none, 0, rfl, fun _ => rfl, Nat.le_refl _, Nat.zero_le _, fun i hi => by simp at hi⟩
end

/-- The place of a word. -/
def findI : List Wd → Byts8 → Int
  | [], _ => -1
  | p :: r, k => if p.1 = k then 0 else if findI r k = -1 then -1 else findI r k + 1
theorem findI_ge : ∀ (ws : List Wd) (k : Byts8), -1 ≤ findI ws k
  | [], k => by simp [findI]
  | p :: r, k => by
    have := findI_ge r k
    unfold findI
    split
    · omega
    · split <;> omega
theorem find_hit : ∀ (ws : List Wd) (k : Byts8) (i : Nat) (h : i < ws.length), (∀ j (h : j < ws.length), j < i → ws[j].1 ≠ k) → ws[i].1 = k → findI ws k = (i : Int)
  | p :: r, k, 0, h, _, he => by
    unfold findI
    rw [if_pos (show p.1 = k from he)]
    rfl
  | p :: r, k, i + 1, h, hn, he => by
    have h0 : p.1 ≠ k := hn 0 (by simp) (by omega)
    have ih := find_hit r k i (by simpa using h) (fun j hj hji => hn (j + 1) (by simpa using hj) (by omega)) he
    unfold findI
    rw [if_neg h0, ih, if_neg (by omega)]
    push_cast
    rfl
theorem find_miss : ∀ (ws : List Wd) (k : Byts8), (∀ j (h : j < ws.length), ws[j].1 ≠ k) → findI ws k = -1
  | [], k, _ => rfl
  | p :: r, k, hn => by
    have h0 : p.1 ≠ k := hn 0 (by simp)
    unfold findI
    rw [if_neg h0, find_miss r k (fun j hj => hn (j + 1) (by simpa using hj)), if_pos rfl]
theorem find_look : ∀ (ws : List Wd) (k : Byts8), ((lookR ws k).isSome = decide (0 ≤ findI ws k)) ∧ ∀ L, lookR ws k = some L → ∃ (i : Nat) (h : i < ws.length), findI ws k = (i : Int) ∧ ws[i].2 = L
  | [], k => ⟨by simp [lookR, findI], fun L h => by cases h⟩
  | p :: r, k => by
    obtain ⟨h1, h2⟩ := find_look r k
    have hg := findI_ge r k
    unfold lookR findI
    split
    · refine ⟨by simp, fun L h => ⟨0, by simp, rfl, ?_⟩⟩
      cases h
      rfl
    · refine ⟨?_, fun L h => ?_⟩
      · rw [h1]
        split
        · rename_i h3
          rw [h3]
        · rename_i h3
          rw [decide_eq_true (show 0 ≤ findI r k by omega), decide_eq_true (show 0 ≤ findI r k + 1 by omega)]
      · obtain ⟨i, hi, h3, h4⟩ := h2 L h
        refine ⟨i + 1, by simpa using hi, ?_, h4⟩
        rw [h3, if_neg (by omega)]
        push_cast
        rfl

set_option maxHeartbeats 1000000 in
set_option maxRecDepth 100000 in
theorem refFind_any {T : Nat → Prop} (ws : List Wd) (k : Byts8) (wo : Option Addr) (wc : Nat) (po : Option Addr) (pn pc : Nat) (oo : Option Addr) (on oc : Nat) (w : World) (hW : WR T w (.slice wo ws.length wc) ws) (hl : ws.length ≤ 100000) :
    Calls Tryd.prog 29 #[.agg #[.slice wo ws.length wc, .slice po pn pc, .slice oo on oc], .string ⟨k.toArray⟩] w fun e w' => e = .returned (.int .i64 (findI ws k)) ∧ Ext w w' := by
  obtain ⟨w1, hw1⟩ : ∃ w1, w1 = w.alloc (.cells #[.slice wo ws.length wc, .slice po pn pc, .slice oo on oc] 47) := ⟨_, rfl⟩
  obtain ⟨g, hg⟩ : ∃ g, g = w.heap.size := ⟨_, rfl⟩
  have X1 : Hid (Ext w w1) := by rw [hw1]; exact (Ext.refl w).alloc _
  have HB : Hid (Blk w1 g #[.slice wo ws.length wc, .slice po pn pc, .slice oo on oc] 47) := by rw [hw1, hg]; exact Blk.new _ _ _
  have HW := hide (hW.ext (unhide X1))
  have c0 := (unhide HB).cell (i := 0) (v := .slice wo ws.length wc) rfl
  clear hW
  go_enter Tryd.func29, Tryd.ntmps29
  go_wp2
  rw [← hw1, ← hg]
  clear hw1 hg
  go_loop [5] (fun iv => ∃ i : Nat, i ≤ ws.length ∧ iv = .int .i64 i ∧ ∀ j (h : j < ws.length), j < i → ws[j].1 ≠ k) (fun iv => ws.length - (intOf iv).toNat)
  case atStart => exact ⟨0, by omega, rfl, fun j h hj => by omega⟩
  case round =>
    obtain ⟨i, hi, rfl, hno⟩ := hrel
    have HNO := hide hno
    clear hno
    by_cases hlt : i < ws.length
    · obtain ⟨b, off, rfl, hA⟩ := (unhide HW).at i hlt
      have n0 := hA.name
      by_cases he : ws[i].1 = k
      · have HL := hide (find_hit ws k i hlt (unhide HNO) he)
        rw [he] at n0
        clear he hA
        go_wp2
        go_ret
        rw [unhide HL]
        exact ⟨rfl, unhide X1⟩
      · have q : (ws[i].1 == k) = false := beq_eq_false_iff_ne.2 he
        have HE := hide he
        clear he hA
        go_wp2
        refine ⟨⟨i + 1, by omega, by push_cast; rfl, fun j h hj => ?_⟩, ?_⟩
        · rcases Nat.lt_succ_iff_lt_or_eq.1 hj with hj | rfl
          · exact unhide HNO j h hj
          · exact unhide HE
        · simp [intOf]
          omega
    · have HL := hide (find_miss ws k (fun j h => unhide HNO j h (by omega)))
      go_wp2
      go_ret
      rw [unhide HL]
      exact ⟨rfl, unhide X1⟩

set_option maxHeartbeats 1000000 in
set_option maxRecDepth 100000 in
theorem refStands_any {T : Nat → Prop} (ws : List Wd) (k : Byts8) (wo : Option Addr) (wc : Nat) (po : Option Addr) (pn pc : Nat) (oo : Option Addr) (on oc : Nat) (w : World) (hW : WR T w (.slice wo ws.length wc) ws) (hl : ws.length ≤ 100000) :
    Calls Tryd.prog 26 #[.agg #[.slice wo ws.length wc, .slice po pn pc, .slice oo on oc], .string ⟨k.toArray⟩] w fun e w' => e = .returned (.bool (standsR ws k)) ∧ Ext w w' := by
  obtain ⟨w1, hw1⟩ : ∃ w1, w1 = w.alloc (.cells #[.slice wo ws.length wc, .slice po pn pc, .slice oo on oc] 47) := ⟨_, rfl⟩
  obtain ⟨g, hg⟩ : ∃ g, g = w.heap.size := ⟨_, rfl⟩
  have X1 : Hid (Ext w w1) := by rw [hw1]; exact (Ext.refl w).alloc _
  have HW := hide (hW.ext (unhide X1))
  clear hW
  by_cases h1 : k = wLine
  · have hs : standsR ws k = true := by unfold standsR; rw [h1]; rfl
    rw [hs]
    have hk : k = [95, 95, 76, 73, 78, 69, 95, 95] := h1
    subst hk
    clear h1 hs
    go_enter Tryd.func26, Tryd.ntmps26
    go_wp2
    go_ret
    exact ⟨rfl, (Ext.refl w).alloc _⟩
  have f1 : (k == [95, 95, 76, 73, 78, 69, 95, 95]) = false := beq_eq_false_iff_ne.2 h1
  by_cases h2 : k = wVers
  · have hs : standsR ws k = true := by unfold standsR; rw [h2]; rfl
    rw [hs]
    have hk : k = [95, 95, 86, 69, 82, 83, 73, 79, 78, 95, 95] := h2
    subst hk
    clear h1 h2 hs f1
    go_enter Tryd.func26, Tryd.ntmps26
    go_wp2
    go_ret
    exact ⟨rfl, (Ext.refl w).alloc _⟩
  have f2 : (k == [95, 95, 86, 69, 82, 83, 73, 79, 78, 95, 95]) = false := beq_eq_false_iff_ne.2 h2
  have hs : standsR ws k = (lookR ws k).isSome := by
    unfold standsR
    rw [beq_eq_false_iff_ne.2 h1, beq_eq_false_iff_ne.2 h2]
    rfl
  rw [hs, (find_look ws k).1]
  have hge := findI_ge ws k
  clear h1 h2 hs
  have HF := hide (refFind_any ws k wo wc po pn pc oo on oc w1 (unhide HW) hl)
  generalize findI ws k = r at *
  go_enter Tryd.func26, Tryd.ntmps26
  go_wp2_with fail
  rw [← hw1]
  refine (unhide HF).mono ?_
  rintro e w2 ⟨rfl, hx2⟩
  have X2 := hide ((unhide X1).trans hx2)
  clear hx2 hw1
  by_cases h0 : 0 ≤ r
  · go_wp2
    go_ret
    exact ⟨by simp [h0], unhide X2⟩
  · go_wp2
    go_ret
    exact ⟨by simp [h0], unhide X2⟩

theorem all_take {ps : List RP} {i : Nat} (h : i < ps.length) : (ps.take (i + 1)).all (·.counts) = ((ps.take i).all (·.counts) && ps[i].counts) := by
  rw [List.take_succ_eq_append_getElem h, List.all_append]
  simp
set_option maxHeartbeats 1000000 in
set_option maxRecDepth 100000 in
theorem refCounts_any {T : Nat → Prop} (ps : List RP) (wo : Option Addr) (wn wc : Nat) (po : Option Addr) (pc : Nat) (oo : Option Addr) (on oc : Nat) (w : World) (hP : PR T w (.slice po ps.length pc) ps) (hl : ps.length ≤ 100000) :
    Calls Tryd.prog 14 #[.agg #[.slice wo wn wc, .slice po ps.length pc, .slice oo on oc]] w fun e w' => e = .returned (.bool (countsR ps)) ∧ Ext w w' := by
  obtain ⟨w1, hw1⟩ : ∃ w1, w1 = w.alloc (.cells #[.slice wo wn wc, .slice po ps.length pc, .slice oo on oc] 47) := ⟨_, rfl⟩
  obtain ⟨g, hg⟩ : ∃ g, g = w.heap.size := ⟨_, rfl⟩
  have X1 : Hid (Ext w w1) := by rw [hw1]; exact (Ext.refl w).alloc _
  have HB : Hid (Blk w1 g #[.slice wo wn wc, .slice po ps.length pc, .slice oo on oc] 47) := by rw [hw1, hg]; exact Blk.new _ _ _
  have HP := hide (hP.ext (unhide X1))
  have c1 := (unhide HB).cell (i := 1) (v := .slice po ps.length pc) rfl
  clear hP
  obtain ⟨C, hC⟩ : ∃ C, countsR ps = C := ⟨_, rfl⟩
  rw [hC]
  have HC := hide hC
  clear hC
  go_enter Tryd.func14, Tryd.ntmps14
  go_wp2
  rw [← hw1, ← hg]
  clear hw1 hg
  go_loop [3] (fun iv => ∃ i : Nat, i ≤ ps.length ∧ iv = .int .i64 i ∧ (ps.take i).all (·.counts) = true) (fun iv => ps.length - (intOf iv).toNat)
  case atStart => exact ⟨0, by omega, rfl, by simp⟩
  case round =>
    obtain ⟨i, hi, rfl, hno⟩ := hrel
    have HNO := hide hno
    clear hno
    by_cases hlt : i < ps.length
    · obtain ⟨b, off, rfl, hA⟩ := (unhide HP).at i hlt
      have n1 := hA.counts
      have HT := hide (all_take hlt)
      cases he : ps[i].counts with
      | true =>
        rw [he] at n1 HT
        clear he hA
        go_wp2
        refine ⟨⟨i + 1, by omega, by push_cast; rfl, by rw [unhide HT, unhide HNO]; rfl⟩, ?_⟩
        simp [intOf]
        omega
      | false =>
        have hc : C = false := by
          rw [← unhide HC]
          unfold countsR
          refine Bool.eq_false_iff.2 (fun hall => ?_)
          rw [List.all_eq_true] at hall
          have := hall ps[i] (List.getElem_mem hlt)
          rw [he] at this
          cases this
        subst hc
        rw [he] at n1
        clear he hA HT
        go_wp2
        go_ret
        exact ⟨rfl, unhide X1⟩
    · have hc : C = true := by
        have := unhide HNO
        rw [List.take_of_length_le (by omega)] at this
        rw [← unhide HC]
        exact this
      subst hc
      go_wp2
      go_ret
      exact ⟨rfl, unhide X1⟩

set_option maxHeartbeats 1000000 in
theorem refWord_any (L : List Tok) (ao : Option Addr) (ca : Nat) (w : World) (hL : TR w (.slice ao L.length ca) L) :
    Calls Tryd.prog 27 #[.slice ao L.length ca] w fun e w' => e = .returned (.bool (isWordL L)) ∧ w' = w := by
  by_cases h1 : L.length = 1
  · match L, h1 with
    | [t], _ =>
      obtain ⟨b, off, rfl, c⟩ := hL.at 0 (by simp)
      have c0 := c.kind
      simp only [Nat.zero_mul, Nat.add_zero, List.getElem_cons_zero] at c0
      clear c hL h1
      show Calls Tryd.prog 27 #[.slice (some ⟨b, off, none⟩) 1 ca] w fun e w' => e = .returned (.bool (decide (t.kind = 1))) ∧ w' = w
      by_cases hk : t.kind = 1
      · have q : (t.kind == 1) = true := by rw [hk]; rfl
        rw [decide_eq_true hk]
        clear hk
        go_enter Tryd.func27, Tryd.ntmps27
        go_wp2
        go_ret
        exact ⟨rfl, rfl⟩
      · have q : (t.kind == 1) = false := beq_eq_false_iff_ne.2 hk
        rw [decide_eq_false hk]
        clear hk
        go_enter Tryd.func27, Tryd.ntmps27
        go_wp2
        go_ret
        exact ⟨rfl, rfl⟩
  · have hf : isWordL L = false := by
      match L, h1 with
      | [], _ => rfl
      | [_], h => exact absurd rfl h
      | _ :: _ :: _, _ => rfl
    rw [hf]
    have q : ((L.length : Int) == 1) = false := beq_eq_false_iff_ne.2 (by omega)
    clear hL hf
    go_enter Tryd.func27, Tryd.ntmps27
    go_wp2
    go_ret
    exact ⟨rfl, rfl⟩
end Go.Proofs.YtdcamcpffiilbaaDoor

/-
  The document's number: an int as a token.
-/
namespace Go.Proofs.YtdcamcpffiilbaaDoor
open Go.RowKit
set_option linter.unusedVariables false
set_option linter.unusedSimpArgs false

theorem bstr_joined (a b : List UInt8) : (⟨a.toArray⟩ : ByteArray) ++ (⟨b.toArray⟩ : ByteArray) = ⟨(a ++ b).toArray⟩ := by
  apply ByteArray.ext
  simp
theorem dig_cut (k : Nat) (h : k < 10) : (⟨#[48, 49, 50, 51, 52, 53, 54, 55, 56, 57]⟩ : ByteArray).extract k (k + 1) = ⟨[UInt8.ofNat (48 + k)].toArray⟩ := by
  match k, h with
  | 0, _ => decide +kernel
  | 1, _ => decide +kernel
  | 2, _ => decide +kernel
  | 3, _ => decide +kernel
  | 4, _ => decide +kernel
  | 5, _ => decide +kernel
  | 6, _ => decide +kernel
  | 7, _ => decide +kernel
  | 8, _ => decide +kernel
  | 9, _ => decide +kernel
theorem dd_len {u : Nat} (h : u ≤ 8193) : (Lib.decDigits u).length ≤ 21 := by
  have := Lib.itoa_length_le (u : Int) (by omega) (by omega)
  unfold Lib.itoa at this
  rw [if_neg (by omega)] at this
  exact this
/-- One token, in a block of its own. -/
theorem TR.one {w : World} {g : Nat} {y : Tok} {t : TypeId} (h : Blk w g (tcell y).toArray t) : TR w (.slice (some ⟨g, 0, none⟩) 1 1) [y] := by
  refine ⟨_, 1, rfl, (fun h => by cases h), Nat.le_refl _, by unfold maxLen; decide, fun i hi => ⟨g, 0, rfl, ?_⟩⟩
  have hi0 : i = 0 := by simp at hi; omega
  subst hi0
  exact ⟨h.cell (i := 0) rfl, h.cell (i := 1) rfl, h.cell (i := 2) rfl, h.cell (i := 3) rfl, h.cell (i := 4) rfl⟩

set_option maxHeartbeats 2000000 in
set_option maxRecDepth 100000 in
theorem refNumber_any (u : Nat) (a : Tok) (w : World) (h1 : 1 ≤ u) (h2 : u ≤ 8193) :
    Calls Tryd.prog 12 #[.int .i64 (u : Int), .agg #[.int .i64 a.kind, .string ⟨a.text.toArray⟩, .int .i32 a.num, .int .i64 a.place, .int .i64 a.line]] w fun e w' => ∃ g, e = .returned (.slice (some ⟨g, 0, none⟩) 1 1) ∧ Blk w' g (tcell ⟨2, Lib.decDigits u, (u : Int) * 65536, a.place, a.line⟩).toArray 33 ∧ w.heap.size ≤ g ∧ Ext w w' := by
  obtain ⟨w1, hw1⟩ : ∃ w1, w1 = w.alloc (.cells #[.int .i64 a.kind, .string ⟨a.text.toArray⟩, .int .i32 a.num, .int .i64 a.place, .int .i64 a.line] 33) := ⟨_, rfl⟩
  obtain ⟨g, hg⟩ : ∃ g, g = w.heap.size := ⟨_, rfl⟩
  have X1 : Hid (Ext w w1) := by rw [hw1]; exact (Ext.refl w).alloc _
  have HB : Hid (Blk w1 g #[.int .i64 a.kind, .string ⟨a.text.toArray⟩, .int .i32 a.num, .int .i64 a.place, .int .i64 a.line] 33) := by rw [hw1, hg]; exact Blk.new _ _ _
  have c3 := (unhide HB).cell (i := 3) (v := .int .i64 a.place) rfl
  have c4 := (unhide HB).cell (i := 4) (v := .int .i64 a.line) rfl
  obtain ⟨D, hD⟩ : ∃ D, Lib.decDigits u = D := ⟨_, rfl⟩
  have hne := (dd_facts u).2.1
  have hDl := dd_len h2
  rw [hD] at hne hDl
  rw [hD]
  have HD := hide hD
  have HNE := hide hne
  clear hD hne
  go_enter Tryd.func12, Tryd.ntmps12
  go_wp2
  rw [← hw1, ← hg]
  clear hw1 hg
  go_loop [5, 6] (fun sv kv => ∃ (m : Nat) (l : List UInt8), m ≤ 8193 ∧ l.length ≤ 21 ∧ kv = .int .i64 m ∧ sv = .string ⟨l.toArray⟩ ∧ (m = 0 → l = D) ∧ (1 ≤ m → Lib.decDigits m ++ l = D)) (fun _ kv => (intOf kv).toNat)
  case atStart => exact ⟨u, [], by omega, by simp, rfl, rfl, fun h => by omega, fun _ => by rw [List.append_nil]; exact unhide HD⟩
  case round =>
    obtain ⟨m, l, hm, hl, rfl, rfl, he0, he1⟩ := hrel
    by_cases h0 : m = 0
    · have hlD := he0 h0
      subst hlD
      subst h0
      have q1 : (l == []) = false := beq_eq_false_iff_ne.2 (unhide HNE)
      have q2 : IntKind.i32.wrap ((u : Int) * 65536) = (u : Int) * 65536 := by simp [IntKind.wrap, IntKind.bits, IntKind.signed] <;> omega
      have HBN := hide (Blk.new w1 (tcell ⟨2, l, (u : Int) * 65536, a.place, a.line⟩).toArray 33)
      have X2 := hide ((unhide X1).alloc (.cells (tcell ⟨2, l, (u : Int) * 65536, a.place, a.line⟩).toArray 33))
      have HSZ := hide ((unhide X1).size)
      clear he0 he1 HD HNE
      go_wp2
      go_ret
      exact ⟨w1.heap.size, rfl, unhide HBN, unhide HSZ, unhide X2⟩
    · have hm1 : 1 ≤ m := by omega
      have H1 := hide (he1 hm1)
      clear he0 he1
      have t1 : decide ((0 : Int) < (m : Int)) = true := by simp; omega
      have e1 := dig_cut (m % 10) (by omega)
      have hdl : l.length + (Lib.decDigits m).length ≤ 21 := by
        have := congrArg List.length (unhide H1)
        rw [List.length_append] at this
        omega
      have hdp : 1 ≤ (Lib.decDigits m).length := List.length_pos_iff.2 (dd_facts m).2.1
      have HS : Hid (Lib.decDigits m = [UInt8.ofNat (48 + m % 10)] ∧ m / 10 = 0 ∨ Lib.decDigits m = Lib.decDigits (m / 10) ++ [UInt8.ofNat (48 + m % 10)] ∧ 1 ≤ m / 10) := by
        by_cases h10 : m < 10
        · exact .inl ⟨by rw [dd_small h10, Nat.mod_eq_of_lt h10], by omega⟩
        · exact .inr ⟨dd_big h10, by omega⟩
      generalize UInt8.ofNat (48 + m % 10) = c at *
      have r1 : ((m : Int) % 10).toNat = m % 10 := by omega
      have r2 : ((m : Int) % 10 + 1).toNat = m % 10 + 1 := by omega
      go_wp2
      refine ⟨⟨m / 10, c :: l, by omega, by simp; omega, by simp, congrArg Value.string (bstr_joined [c] l), fun h => ?_, fun h => ?_⟩, ?_⟩
      · rcases unhide HS with ⟨h3, h4⟩ | ⟨h3, h4⟩
        · rw [← unhide H1, h3]
          rfl
        · omega
      · rcases unhide HS with ⟨h3, h4⟩ | ⟨h3, h4⟩
        · omega
        · rw [← unhide H1, h3]
          simp
      · simp [intOf]
        omega
end Go.Proofs.YtdcamcpffiilbaaDoor

/-
  Rows of whatever structs that are the call's own, by what their cells are. Nothing here speaks of the program.
-/
namespace Go.Proofs.YtdcamcpffiilbaaDoor
open Go.RowKit
set_option linter.unusedVariables false
set_option linter.unusedSimpArgs false

/-- The slice value v is the call's own and holds what L's things are as cells. -/
def GO {α : Type} (enc : α → List Value) (e : TypeId) (size : Nat) (w : World) (base : Nat) (v : Value) (L : List α) : Prop := w.ownsRow base e size v L.length (L.flatMap enc)
section
variable {α : Type} {enc : α → List Value} {e : TypeId} {size : Nat} {w w' : World} {base : Nat} {v : Value} {L : List α}
theorem extGrownG (hx : Ext w w') (r : Option Nat) : w.grownBy w' r := ⟨hx.os, hx.tape, hx.output, hx.size, fun i hi _ => hx.block i hi⟩
theorem GO.ext (h : GO enc e size w base v L) (hx : Ext w w') : GO enc e size w' base v L := by
  refine World.ownsRow.kept h (extGrownG hx none) ?_
  cases v.ownBlock <;> simp
theorem GO.lt (h : GO enc e size w base v L) : ∀ g, v.ownBlock = some g → base ≤ g ∧ g < w.heap.size := World.ownsRow.lt h
theorem GO.keep {r : Nat} (h : GO enc e size w base v L) (hg : w.grownBy w' (some r)) (hr : ∀ b, v.ownBlock = some b → b ≠ r) : GO enc e size w' base v L := by
  refine World.ownsRow.kept h hg ?_
  cases hv : v.ownBlock with
  | none => exact .inl rfl
  | some b => exact .inr (fun e => hr b hv (by cases e; rfl))
theorem GO.lower {b2 : Nat} (h : GO enc e size w base v L) (hb : b2 ≤ base) : GO enc e size w b2 v L := by
  refine ⟨h.1, ?_⟩
  rcases h.2 with hn | ⟨g, cap, cur, e, h1, r⟩
  · exact .inl hn
  · exact .inr ⟨g, cap, cur, e, by omega, r⟩
theorem GO.shape (h : GO enc e size w base v L) : ∃ ao cap, v = .slice ao L.length cap ∧ (ao = none → cap = 0) ∧ L.length ≤ cap ∧ cap ≤ maxLen := by
  rcases h.2 with ⟨e, h0⟩ | ⟨g, cap, cur, e, hb, hg, hnc, hcm, hcs, htake⟩
  · exact ⟨none, 0, by rw [h0]; exact e, fun _ => rfl, by omega, Nat.zero_le _⟩
  · exact ⟨_, cap, e, (fun h => by cases h), hnc, hcm⟩
theorem GO.nil (w : World) (base : Nat) : GO enc e size w base (.slice none 0 0) ([] : List α) := World.ownsRow_nil _ _ _ _
theorem GO.one {g : Nat} {x : α} (hs : (enc x).length = size) (h : Blk w g (enc x).toArray e) (hb : base ≤ g) : GO enc e size w base (.slice (some ⟨g, 0, none⟩) 1 1) [x] := by
  refine ⟨by simp [hs], .inr ⟨g, 1, (enc x).toArray, rfl, hb, h, Nat.le_refl _, by unfold maxLen; decide, by simp [hs], by subst hs; simp⟩⟩
theorem flat_len (hs : ∀ x, (enc x).length = size) : ∀ (L : List α), (L.flatMap enc).length = L.length * size
  | [] => by simp
  | x :: r => by
    rw [List.flatMap_cons, List.length_append, flat_len hs r, hs, List.length_cons, Nat.succ_mul, Nat.add_comm]
theorem flat_get (hs : ∀ x, (enc x).length = size) : ∀ (L : List α) (i : Nat) (h : i < L.length) (j : Nat), j < size → (L.flatMap enc)[i * size + j]? = (enc L[i])[j]?
  | x :: r, 0, _, j, hj => by
    rw [List.flatMap_cons, List.getElem?_append_left (by rw [hs]; omega)]
    simp
  | x :: r, i + 1, h, j, hj => by
    have ih := flat_get hs r i (by simpa using h) j hj
    have e1 : (i + 1) * size + j - size = i * size + j := by rw [Nat.succ_mul]; omega
    rw [List.flatMap_cons, List.getElem?_append_right (by rw [hs, Nat.succ_mul]; omega), hs, e1]
    simpa using ih
theorem GO.at (hs : ∀ x, (enc x).length = size) {ao : Option Addr} {n cap : Nat} (h : GO enc e size w base (.slice ao n cap) L) (i : Nat) (hi : i < L.length) : ∃ g, ao = some ⟨g, 0, none⟩ ∧ base ≤ g ∧ g < w.heap.size ∧ ∀ j u, j < size → (enc L[i])[j]? = some u → w.cell? ⟨g, i * size + j, none⟩ = some u := by
  rcases id h.2 with ⟨h1, h0⟩ | ⟨g, c2, cur, e2, hb, hg, _⟩
  · omega
  · cases e2
    refine ⟨g, rfl, hb, (Array.getElem?_eq_some_iff.1 hg).1, fun j u hj hu => ?_⟩
    have := World.ownsRow.cells h (g := g) rfl (i * size + j) u (by rw [flat_get hs L i hi j hj]; exact hu)
    rw [Addr.add_lit, Nat.zero_add] at this
    exact this
end
theorem info_partsG {P : Program} {t : TypeId} {z : Value} {n b : Nat} (h : (P.info? t).map (fun i => (i.zero, i.size, i.bytes)) = some (some z, n, b)) : ∃ i, P.info? t = some i ∧ i.zero = some z ∧ i.size = n ∧ i.bytes = b := by
  cases hi : P.info? t with
  | none => rw [hi] at h; cases h
  | some i =>
    rw [hi] at h
    simp only [Option.map_some, Option.some.injEq, Prod.mk.injEq] at h
    exact ⟨i, rfl, h.1, h.2.1, h.2.2⟩
/-- 'append(row, x)', the row the call's own, the block of x laid last. -/
theorem wpList_append_G {P : Program} {α : Type} {enc : α → List Value} {e : TypeId} {size : Nat} {w : World} {ops : Array Oper} {rest : List Oper} {o : Oper} {a : Act} {Q : Exit → Act → World → Prop} {z : Value} {bytes : Nat} {t : TypeId}
    (hinfo : (P.info? e).map (fun i => (i.zero, i.size, i.bytes)) = some (some z, size, bytes)) (hu : P.underlying t = some (.slice e)) (hz : z.cells.size = size) (hp : 0 < size) (hb : bytes ≤ 100) (hgd : o.guard = none) (s x : Operand)
    (ho : o.op = .call { callee := .builtin .append, args := #[s, x], argTypes := #[t, t] }) (base : Nat) (v : Value) (L : List α) (y : α) (hs : a.eval s = v)
    (hown : GO enc e size w base v L) (g c : Nat) (hx : a.eval x = .slice (some ⟨g, 0, none⟩) 1 c) (t2 : TypeId) (hB : Blk w g (enc y).toArray t2) (hsz : (enc y).length = size) (hone : ∀ u ∈ enc y, u.oneCell' = true)
    (hL : L.length ≤ 1000000000000) (hbase : base ≤ w.heap.size)
    (h : ∀ ao cap N w', N = L ++ [y] → GO enc e size w' base (.slice ao N.length cap) N → w.grownBy w' v.ownBlock → (∀ b, (Value.slice ao N.length cap).ownBlock = some b → v.ownBlock = some b ∨ w.heap.size ≤ b) → wpList P ops Q rest (a.put o.dst (.slice ao N.length cap)) w') :
    wpList P ops Q (o :: rest) a w := by
  obtain ⟨i0, hi, hz0, hz1, hz2⟩ := info_partsG hinfo
  refine wpList_append_own_at w hgd s x t ho base e i0 _ size bytes hu hi hz0 hz1 hz2 hz hp v L.length (L.flatMap enc) hs hown ⟨g, 0, none⟩ 1 c (enc y) hx (by omega) ?_ hone (by unfold maxLen; omega) ?_ hbase ?_
  · intro j u hu
    rw [Addr.add_lit, Nat.zero_add]
    exact hB.cell (by simpa using hu)
  · have : (L.length + 1) * bytes ≤ (L.length + 1) * 100 := Nat.mul_le_mul_left _ hb
    omega
  · intro v' w' h1 h2 _ h4
    have h3 : GO enc e size w' base v' (L ++ [y]) := by
      unfold GO
      rw [List.flatMap_append, List.length_append]
      simpa using h1
    obtain ⟨ao, cap, rfl, _⟩ := h3.shape
    refine h ao cap _ w' rfl h3 h2 (fun b hb => ?_)
    rcases h4 with h4 | h4
    · exact .inl (h4 ▸ hb)
    · rw [h4] at hb
      cases hb
      exact .inr (Nat.le_refl _)
/-- The same as a run, for regions that draw. -/
theorem run_append_G {P : Program} {α : Type} {enc : α → List Value} {e : TypeId} {size : Nat} {w : World} {z : Value} {bytes : Nat} {t : TypeId} (ty : TypeId)
    (hinfo : (P.info? e).map (fun i => (i.zero, i.size, i.bytes)) = some (some z, size, bytes)) (hu : P.underlying t = some (.slice e)) (hz : z.cells.size = size) (hp : 0 < size) (hb : bytes ≤ 100)
    (base : Nat) (v : Value) (L : List α) (y : α) (hown : GO enc e size w base v L) (g c : Nat) (t2 : TypeId) (hB : Blk w g (enc y).toArray t2) (hsz : (enc y).length = size) (hone : ∀ u ∈ enc y, u.oneCell' = true)
    (hL : L.length ≤ 1000000000000) (hbase : base ≤ w.heap.size) :
    ∃ ao cap N w', N = L ++ [y] ∧ (Builtin.append_ #[t, t] ty #[v, .slice (some ⟨g, 0, none⟩) 1 c]).run P w = .ok (.slice ao N.length cap) w' ∧ GO enc e size w' base (.slice ao N.length cap) N ∧ w.grownBy w' v.ownBlock ∧ (∀ b, (Value.slice ao N.length cap).ownBlock = some b → v.ownBlock = some b ∨ w.heap.size ≤ b) := by
  obtain ⟨i0, hi, hz0, hz1, hz2⟩ := info_partsG hinfo
  obtain ⟨v', w', hr, h1, h2, _, h4⟩ := run_append_own_at (P := P) w base t ty e i0 _ size bytes hu hi hz0 hz1 hz2 hz hp v L.length (L.flatMap enc) hown ⟨g, 0, none⟩ 1 c (enc y) (by omega)
    (by
      intro j u hu
      rw [Addr.add_lit, Nat.zero_add]
      exact hB.cell (by simpa using hu)) hone (by unfold maxLen; omega)
    (by
      have : (L.length + 1) * bytes ≤ (L.length + 1) * 100 := Nat.mul_le_mul_left _ hb
      omega) hbase
  have h3 : GO enc e size w' base v' (L ++ [y]) := by
    unfold GO
    rw [List.flatMap_append, List.length_append]
    simpa using h1
  obtain ⟨ao, cap, rfl, _⟩ := h3.shape
  refine ⟨ao, cap, _, w', rfl, hr, h3, h2, fun b hb => ?_⟩
  rcases h4 with h4 | h4
  · exact .inl (h4 ▸ hb)
  · rw [h4] at hb
    cases hb
    exact .inr (Nat.le_refl _)
end Go.Proofs.YtdcamcpffiilbaaDoor

/-
  A region that draws its order, whose operations only read, and whose callees read and make new blocks: one walk of the text's order serves every order. Nothing here speaks of the program.
-/
namespace Go.Proofs.YtdcamcpffiilbaaDoor
open Go.RowKit

/-- The worlds in which all that lay in w lies as it did. -/
def Later (w : World) : Type := { w' : World // Ext w w' }
def Later.w {w : World} (x : Later w) : World := x.1
theorem Later.ext {w : World} (x : Later w) : Ext w x.w := x.2
theorem Later.some (w : World) : Nonempty (Later w) := ⟨⟨w, Ext.refl w⟩⟩

theorem wp_region_later {P : Program} {id : Nat} {Q : Exit → Act → World → Prop} {a : Act} {w : World} {l : List Oper} (hm : P.follows .mixedOrders = true) (hB : Region.lexB .any l.toArray = true)
    (h : wpQuiet P l.toArray (fun w' => ∃ x : Later w, w' = x.w) (fun a' => ∀ w', (∃ x : Later w, w' = x.w) → Q .normal a' w') l a) : (Code.region id l.toArray true).wp P Q a w :=
  wp_region_quiet (C := fun w' => ∃ x : Later w, w' = x.w) hm hB ⟨⟨w.drew, (Ext.refl w).drew⟩, rfl⟩ (by simpa using h)

theorem calls_later {P : Program} {f : FuncId} {args : Array Value} {w : World} {x : Later w} {v : Value} (h : Calls P f args x.w fun e w' => e = .returned v ∧ Ext x.w w') :
    Calls P f args x.w fun e w'' => e = .returned v ∧ ∃ y : Later w, w'' = y.w :=
  h.mono fun _ w' ⟨he, hx⟩ => ⟨he, ⟨w', x.ext.trans hx⟩, rfl⟩

/-- What a cell holds in w it holds later. -/
theorem cell_later {w : World} {p : Addr} {v : Value} (h : w.cell? p = some v) (x : Later w) : x.w.cell? p = some v := by
  rw [x.ext.cell (p := p) (World.block_lt_of_cell? w p h)]
  exact h
end Go.Proofs.YtdcamcpffiilbaaDoor

/-
  The document's Direct: what a directive does.
-/
namespace Go.Proofs.YtdcamcpffiilbaaDoor
open Go.RowKit
set_option linter.unusedVariables false
set_option linter.unusedSimpArgs false

def ptC (p : RP) : List Value := [.bool p.els, .bool p.counts, .bool p.outer]
theorem ptC_len (p : RP) : (ptC p).length = 3 := rfl
theorem ptC_one (p : RP) : ∀ u ∈ ptC p, u.oneCell' = true := fun u hu => by
  simp [ptC] at hu
  rcases hu with rfl | rfl | rfl <;> rfl
theorem infoPrt : (Tryd.prog.info? 66).map (fun i => (i.zero, i.size, i.bytes)) = some (some (.agg #[.bool false, .bool false, .bool false]), 3, 3) := by kernel_rfl
/-- A word, and the slice of what it stands for. -/
def wdC (p : Wd × Value) : List Value := [.string ⟨p.1.1.toArray⟩, p.2]
theorem wdC_len (p : Wd × Value) : (wdC p).length = 2 := rfl
theorem wdC_one (p : Wd × Value) (ao : Option Addr) (n cap : Nat) (h : p.2 = .slice ao n cap) : ∀ u ∈ wdC p, u.oneCell' = true := fun u hu => by
  simp [wdC] at hu
  rcases hu with rfl | rfl
  · rfl
  · rw [h]
    rfl
theorem infoWd : (Tryd.prog.info? 43).map (fun i => (i.zero, i.size, i.bytes)) = some (some (.agg #[.string ⟨#[]⟩, .slice none 0 0]), 2, 40) := by kernel_rfl
theorem GO.pr {w : World} {base : Nat} {v : Value} {ps : List RP} {T : Nat → Prop} (h : GO ptC 66 3 w base v ps) (hT : ∀ b, T b → b < base) : PR T w v ps := by
  obtain ⟨ao, cap, rfl, h1, h2, h3⟩ := h.shape
  refine ⟨ao, cap, rfl, h1, h2, h3, fun i hi => ?_⟩
  obtain ⟨g, rfl, hg, _, hc⟩ := h.at ptC_len i hi
  refine ⟨g, 0, rfl, ?_, ?_, ?_, fun e => by have := hT g e; omega⟩
  · rw [Nat.zero_add]
    exact hc 0 _ (by omega) rfl
  · rw [Nat.zero_add]
    exact hc 1 _ (by omega) rfl
  · rw [Nat.zero_add]
    exact hc 2 _ (by omega) rfl
/-- What words stand for lies in w. -/
def Toks (T : Nat → Prop) (w : World) (P : List (Wd × Value)) : Prop := ∀ p ∈ P, ∃ ao cap, p.2 = .slice ao p.1.2.length cap ∧ TF T w p.2 p.1.2
theorem Toks.snoc {T : Nat → Prop} {w : World} {P : List (Wd × Value)} {q : Wd} {ao : Option Addr} {cap : Nat} (h : Toks T w P) (ht : TF T w (.slice ao q.2.length cap) q.2) : Toks T w (P ++ [(q, .slice ao q.2.length cap)]) := fun p hp => by
  rcases List.mem_append.1 hp with hp | hp
  · exact h p hp
  · rw [List.mem_singleton] at hp
    subst hp
    exact ⟨ao, cap, rfl, ht⟩
theorem GO.wr {w w0 : World} {base : Nat} {v : Value} {P : List (Wd × Value)} {ws : List Wd} {T : Nat → Prop} (h : GO wdC 43 2 w base v P) (ht : Toks T w0 P) (hx : Ext w0 w) (hT : ∀ b, T b → b < base) (hP : P.map (·.1) = ws) : WR T w v ws := by
  subst hP
  obtain ⟨ao, cap, rfl, h1, h2, h3⟩ := h.shape
  refine ⟨ao, cap, by rw [List.length_map], h1, by rw [List.length_map]; exact h2, h3, fun i hi => ?_⟩
  have hi2 : i < P.length := by rwa [List.length_map] at hi
  obtain ⟨g, rfl, hg, _, hc⟩ := h.at wdC_len i hi2
  obtain ⟨ao2, cap2, e2, ht2⟩ := ht P[i] (List.getElem_mem hi2)
  rw [List.getElem_map]
  refine ⟨g, 0, rfl, ?_, ⟨ao2, cap2, ?_, ?_⟩, fun e => by have := hT g e; omega⟩
  · rw [Nat.zero_add]
    exact hc 0 _ (by omega) rfl
  · rw [Nat.zero_add, ← e2]
    exact hc 1 _ (by omega) rfl
  · rw [← e2]
    exact ht2.ext hx
theorem GO.put {α : Type} {enc : α → List Value} {e : TypeId} {size : Nat} {w : World} {base : Nat} {v : Value} {L : List α} (h : GO enc e size w base v L) {r : Nat} (hr : r < base) (i : Nat) (u : Value) : GO enc e size (w.setCell ⟨r, i, none⟩ u) base v L :=
  h.keep (grownBy_set _ _ _ _) (fun b hb => by have := (h.lt b hb).1; omega)
theorem if_iff {α : Type} {p q : Prop} [Decidable p] [Decidable q] (h : p ↔ q) (a b : α) : (if p then a else b) = (if q then a else b) := by
  by_cases hp : p
  · rw [if_pos hp, if_pos (h.1 hp)]
  · rw [if_neg hp, if_neg (fun hq => hp (h.2 hq))]
/-- The three cells of a state. -/
theorem blkThree {w : World} {b : Nat} {a0 a1 a2 v0 v1 v2 : Value} {t : TypeId} (h : Blk w b #[a0, a1, a2] t) : Blk (((w.setCell ⟨b, 0, none⟩ v0).setCell ⟨b, 1, none⟩ v1).setCell ⟨b, 2, none⟩ v2) b #[v0, v1, v2] t := ((h.set 0 v0).set 1 v1).set 2 v2
theorem extThree {w w1 : World} {b : Nat} {v0 v1 v2 : Value} (h : Ext w w1) (hb : w.heap.size ≤ b) : Ext w (((w1.setCell ⟨b, 0, none⟩ v0).setCell ⟨b, 1, none⟩ v1).setCell ⟨b, 2, none⟩ v2) := extSet (extSet (extSet h hb) hb) hb

/-- What Direct answers. -/
def DirQ2 (T : Nat → Prop) (w : World) (oo : Option Addr) (on oc : Nat) (q : Option (List Wd × List RP)) (e : Ending) (w' : World) : Prop := Ext w w' ∧ match q with
  | some (ws, ps) => ∃ wo wk po pc, e = .returned (.tuple #[.agg #[.slice wo ws.length wk, .slice po ps.length pc, .slice oo on oc], .bool true]) ∧ WR T w' (.slice wo ws.length wk) ws ∧ PR T w' (.slice po ps.length pc) ps
  | none => ∃ xo xn xc yo yn yc, e = .returned (.tuple #[.agg #[.slice xo xn xc, .slice yo yn yc, .slice oo on oc], .bool false])

end Go.Proofs.YtdcamcpffiilbaaDoor
