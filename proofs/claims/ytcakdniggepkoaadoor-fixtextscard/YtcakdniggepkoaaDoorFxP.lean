/-
  Plain facts on digits: what is read of a numeral is its number, and Parse of Text is the number. Nothing here speaks of the program.
-/
import Derived.Test.YtcakdniggepkoaaDoorFxD
import Derived.Test.YtcakdniggepkoaaDoorFxE
namespace Go.Proofs.YtcakdniggepkoaaDoor
set_option linter.unusedVariables false
set_option linter.unusedSimpArgs false

/-- A byte that is a digit. -/
def isDig (c : UInt8) : Prop := 48 ≤ c.toNat ∧ c.toNat ≤ 57
/-- The number of a row of digits, behind the number acc. -/
def dval : List UInt8 → Int → Int
  | [], acc => acc
  | c :: l, acc => dval l (10 * acc + (c.toNat - 48))

theorem dval_append (a b : List UInt8) (acc : Int) : dval (a ++ b) acc = dval b (dval a acc) := by
  induction a generalizing acc with
  | nil => rfl
  | cons c l ih => exact ih _
theorem dval_ge (l : List UInt8) (acc : Int) (h0 : 0 ≤ acc) (hl : ∀ c ∈ l, isDig c) : acc ≤ dval l acc := by
  induction l generalizing acc with
  | nil => exact Int.le_refl _
  | cons c l ih =>
    have hc := hl c (by simp)
    unfold isDig at hc
    have := ih (10 * acc + (c.toNat - 48)) (by omega) (fun x hx => hl x (by simp [hx]))
    simp only [dval]
    omega
theorem dig_ne {c : UInt8} (h : isDig c) : c ≠ 45 ∧ c ≠ 46 := by
  unfold isDig at h
  constructor <;> (intro e; subst e; revert h; decide)

theorem scan_dig (c : UInt8) (l : List UInt8) (f : Bool) (d : Dec) (h : isDig c) : scan (c :: l) f d = scan l false (d.digit (c.toNat - 48)) := by
  rw [scan, if_neg (fun e => (dig_ne h).1 e.1), if_neg (fun e => (dig_ne h).2 e.1)]
  exact if_pos h

theorem scan_whole (l r : List UInt8) (f : Bool) (m g : Bool) (W P U : Int) (hl : ∀ c ∈ l, isDig c) (h0 : 0 ≤ W) (hv : dval l W ≤ 65536) :
    scan (l ++ r) f ⟨m, g, false, W, P, U⟩ = scan r (f && l.isEmpty) ⟨m, g || !l.isEmpty, false, dval l W, P, U⟩ := by
  induction l generalizing f g W with
  | nil => simp [dval]
  | cons c l ih =>
    have hc := hl c (by simp)
    have hc2 := hc
    unfold isDig at hc2
    have hge := dval_ge l (10 * W + (c.toNat - 48)) (by omega) (fun x hx => hl x (by simp [hx]))
    simp only [dval] at hv
    have hcl : clampI (10 * W + (c.toNat - 48)) 0 65536 = 10 * W + (c.toNat - 48) := by unfold clampI; omega
    rw [List.cons_append, scan_dig c _ _ _ hc]
    simp only [Dec.digit, Bool.false_eq_true, if_false, hcl]
    rw [ih false true (10 * W + (c.toNat - 48)) (fun x hx => hl x (by simp [hx])) (by omega) hv]
    simp [dval]

/-- What a row of digits behind the point is worth. -/
def pval : List UInt8 → Int → Int
  | [], _ => 0
  | c :: l, u => ((c.toNat : Int) - 48) * (u / 10) + pval l (u / 10)
theorem scan_part (l : List UInt8) (m g : Bool) (W P U : Int) (hl : ∀ c ∈ l, isDig c) :
    ∃ U', scan l false ⟨m, g, true, W, P, U⟩ = (true, ⟨m, g || !l.isEmpty, true, W, P + pval l U, U'⟩) := by
  induction l generalizing g P U with
  | nil => exact ⟨U, by simp [scan, pval]⟩
  | cons c l ih =>
    rw [scan_dig c _ _ _ (hl c (by simp))]
    simp only [Dec.digit, if_true]
    obtain ⟨U', e⟩ := ih true (P + (c.toNat - 48) * (U / 10)) (U / 10) (fun x hx => hl x (by simp [hx]))
    exact ⟨U', by rw [e]; simp [pval, Int.add_assoc]⟩
theorem pval_zeros (k : Nat) (u : Int) : pval (List.replicate k 48) u = 0 := by
  induction k generalizing u with
  | zero => rfl
  | succ k ih => simp [List.replicate_succ, pval, ih]
theorem pval_append_zeros (l : List UInt8) (k : Nat) (u : Int) : pval (l ++ List.replicate k 48) u = pval l u := by
  induction l generalizing u with
  | nil => simp [pval, pval_zeros]
  | cons c l ih => simp [pval, ih]

theorem trimR_zeros (l : List UInt8) : ∃ k, l = Lib.trimRightB l 48 ++ List.replicate k 48 := by
  have key : ∀ r : List UInt8, ∃ k, r = List.replicate k 48 ++ r.dropWhile (fun x => x == (48 : UInt8)) := by
    intro r
    induction r with
    | nil => exact ⟨0, rfl⟩
    | cons c r ih =>
      by_cases h : c = 48
      · obtain ⟨k, hk⟩ := ih
        subst h
        refine ⟨k + 1, ?_⟩
        rw [List.dropWhile_cons_of_pos (by simp), List.replicate_succ, List.cons_append, ← hk]
      · exact ⟨0, by rw [List.dropWhile_cons_of_neg (by simpa using h)]; rfl⟩
  obtain ⟨k, hk⟩ := key l.reverse
  refine ⟨k, ?_⟩
  have := congrArg List.reverse hk
  simp only [List.reverse_reverse, List.reverse_append, List.reverse_replicate] at this
  exact this

theorem dig_of (n : Nat) (h : n < 10) : isDig (UInt8.ofNat (48 + n)) ∧ ((UInt8.ofNat (48 + n)).toNat : Int) - 48 = n := by
  have e : (UInt8.ofNat (48 + n)).toNat = 48 + n := by simp; omega
  unfold isDig
  rw [e]
  omega
theorem dec_digs (u : Nat) : (∀ c ∈ Lib.decDigits u, isDig c) ∧ dval (Lib.decDigits u) 0 = u ∧ Lib.decDigits u ≠ [] := by
  induction u using Nat.strongRecOn with
  | _ u ih =>
    by_cases h : u < 10
    · rw [Lib.decDigits_one h]
      have hd := dig_of u h
      refine ⟨by intro c hc; simp only [List.mem_singleton] at hc; rw [hc]; exact hd.1, ?_, by simp⟩
      simp only [dval]
      omega
    · obtain ⟨h1, h2, h3⟩ := ih (u / 10) (by omega)
      have hd := dig_of (u % 10) (by omega)
      rw [Lib.decDigits, dif_neg h]
      refine ⟨by intro c hc; rcases List.mem_append.1 hc with hc | hc; exact h1 c hc; simp only [List.mem_singleton] at hc; rw [hc]; exact hd.1, ?_, by simp⟩
      rw [dval_append, h2]
      simp only [dval]
      omega

/-- The part's digits are worth what they say: 10^12 times their number. -/
theorem part_val (F : Nat) (h : F < 100000) : pval ((Lib.decDigits (100000 + F)).drop 1) 100000000000000000 = (F : Int) * 1000000000000 ∧ ∀ c ∈ (Lib.decDigits (100000 + F)).drop 1, isDig c := by
  obtain ⟨h1, h2, h3⟩ := dec_digs (100000 + F)
  have hlen : (Lib.decDigits (100000 + F)).length = 6 := by rw [Lib.decDigits_length, Lib.nDigits_unique 5 _ (by omega) (by omega)]
  refine ⟨?_, fun c hc => h1 c (List.mem_of_mem_drop hc)⟩
  generalize Lib.decDigits (100000 + F) = l at *
  match l, hlen with
  | [a, b, c, d, e, f], _ =>
    simp only [dval] at h2
    simp only [List.drop_succ_cons, List.drop_zero, pval]
    have ha := h1 a (by simp)
    have hb := h1 b (by simp)
    have hc := h1 c (by simp)
    have hd := h1 d (by simp)
    have he := h1 e (by simp)
    have hf := h1 f (by simp)
    unfold isDig at *
    omega

theorem number_back (q p : Nat) (m : Bool) (g pt : Bool) (U : Int) (hp : p < 65536) (hq : q ≤ 32768) :
    Dec.number ⟨m, g, pt, q, (((p * 100000 + 32768) / 65536 : Nat) : Int) * 1000000000000, U⟩ = rawI (if m then -((q : Int) * 65536 + p) else (q : Int) * 65536 + p) := by
  have e : ((((p * 100000 + 32768) / 65536 : Nat) : Int) * 1000000000000 + 762939453125) / 1525878906250 = p := by omega
  simp only [Dec.number, Dec.size, e]

theorem scan_text (q p : Nat) (m : Bool) (f : Bool) (hp : p < 65536) (hq : q ≤ 32768) :
    ∃ g pt U, scan (Lib.decDigits q ++ partL p) f ⟨m, false, false, 0, 0, 100000000000000000⟩ = (true, ⟨m, true, pt, q, (((p * 100000 + 32768) / 65536 : Nat) : Int) * 1000000000000, U⟩) ∧ g = true := by
  obtain ⟨h1, h2, h3⟩ := dec_digs q
  have hne : (Lib.decDigits q).isEmpty = false := by simpa using h3
  rw [scan_whole _ _ _ _ _ _ _ _ h1 (by omega) (by omega), h2, hne]
  simp only [Bool.and_false, Bool.not_false, Bool.or_true]
  unfold partL
  split
  · rename_i h0
    rw [h0]
    exact ⟨true, false, 100000000000000000, by simp [scan], rfl⟩
  · rename_i h0
    obtain ⟨hv, hd⟩ := part_val ((p * 100000 + 32768) / 65536) (by omega)
    generalize (Lib.decDigits (100000 + (p * 100000 + 32768) / 65536)).drop 1 = l at *
    obtain ⟨k, hk⟩ := trimR_zeros l
    have hv2 : pval (Lib.trimRightB l 48) 100000000000000000 = (((p * 100000 + 32768) / 65536 : Nat) : Int) * 1000000000000 := by
      rw [← hv]
      conv => rhs; rw [hk]
      rw [pval_append_zeros]
    have hd2 : ∀ c ∈ Lib.trimRightB l 48, isDig c := fun c hc => hd c (by rw [hk]; exact List.mem_append_left _ hc)
    rw [scan, if_neg (by decide), if_pos ⟨rfl, rfl⟩]
    obtain ⟨U', e⟩ := scan_part (Lib.trimRightB l 48) m true q 0 100000000000000000 hd2
    refine ⟨true, true, U', ?_, rfl⟩
    rw [e, hv2]
    simp

theorem parse_text (x : Int) (hx : I32 x) : parseI (textL x) = (x, 0) := by
  unfold I32 at hx
  have hlen : (textL x).length ≤ 40 := by
    have h1 := nd_small (u := x.natAbs / 65536) (by omega)
    have h2 := partL_len (x.natAbs % 65536) (by omega)
    unfold textL
    split <;> simp <;> omega
  unfold parseI
  rw [if_neg (by omega)]
  by_cases hn : x < 0
  · obtain ⟨g, pt, U, e, _⟩ := scan_text (x.natAbs / 65536) (x.natAbs % 65536) true false (by omega) (by omega)
    have e2 : scan (textL x) true Dec.start = scan (Lib.decDigits (x.natAbs / 65536) ++ partL (x.natAbs % 65536)) false ⟨true, false, false, 0, 0, 100000000000000000⟩ := by
      rw [textL, if_pos hn, scan, if_pos ⟨rfl, rfl⟩]
      rfl
    rw [e2, e]
    simp only [Bool.and_self, if_true]
    rw [number_back _ _ _ _ _ _ (by omega) (by omega), if_pos rfl, rawI_id (by unfold I32; omega)]
    refine Prod.ext ?_ rfl
    simp only
    omega
  · obtain ⟨g, pt, U, e, _⟩ := scan_text (x.natAbs / 65536) (x.natAbs % 65536) false true (by omega) (by omega)
    have e2 : scan (textL x) true Dec.start = scan (Lib.decDigits (x.natAbs / 65536) ++ partL (x.natAbs % 65536)) true ⟨false, false, false, 0, 0, 100000000000000000⟩ := by
      rw [textL, if_neg hn]
      rfl
    rw [e2, e]
    simp only [Bool.and_self, if_true]
    rw [number_back _ _ _ _ _ _ (by omega) (by omega), if_neg (by decide), rawI_id (by unfold I32; omega)]
    refine Prod.ext ?_ rfl
    simp only
    omega
end Go.Proofs.YtcakdniggepkoaaDoor
