/-
  Parts that do not count change nothing, plain.
-/
import Derived.Test.YtinnikggaflpdaaDoorZN
import Derived.Test.YtinnikggaflpdaaDoorZH
namespace Go.Proofs.YtinnikggaflpdaaDoor
set_option linter.unusedVariables false
set_option linter.unusedSimpArgs false

/-- A text that can be read wherever it stands: how many tokens, which lines. -/
def TellsL (y : Byts8) (c : Nat) (P : List (List Tok) → Prop) : Prop := ∀ (p ln : Int) (n : Nat), n + c ≤ 2048 → ∃ us, lexA y p ln n = (us, 0, 0) ∧ us.length = c ∧ (∀ u ∈ us, ln ≤ u.line) ∧ P (linesP us)
theorem tells_one {x : Byts8} {ts : List Tok} (h : lexA x 0 0 0 = (ts, 0, 0)) : TellsL x ts.length (fun L => ∃ dp dl, L = linesP (ts.map (mvT dp dl))) := fun p ln n hn => by
  have h1 := lexA_move x.length x 0 0 0 ts (Nat.le_refl _) h p ln n hn
  rw [Int.zero_add, Int.zero_add] at h1
  exact ⟨_, h1, by simp, fun u hu => (lines_in x.length x p ln n _ (Nat.le_refl _) h1 u hu).1, p, ln, rfl⟩
theorem tells_cons {x y : Byts8} {ts : List Tok} {c : Nat} {P : List (List Tok) → Prop} (h : lexA x 0 0 0 = (ts, 0, 0)) (hy : TellsL y c P) : TellsL (x ++ 10 :: y) (ts.length + c) (fun L => ∃ dp dl L2, L = linesP (ts.map (mvT dp dl)) ++ L2 ∧ P L2) := fun p ln n hn => by
  have h1 := lexA_move x.length x 0 0 0 ts (Nat.le_refl _) h p ln n (by omega)
  rw [Int.zero_add, Int.zero_add] at h1
  obtain ⟨us, h2, h3, h4, h5⟩ := hy (p + x.length + 1) (ln + cntL x + (cntL [10] : Nat)) (n + ts.length) (by omega)
  have h10 : cntL [10] = 1 := by decide
  have hin := lines_in x.length x p ln n _ (Nat.le_refl _) h1
  refine ⟨ts.map (mvT p ln) ++ us, ?_, by simp [h3], fun u hu => ?_, p, ln, linesP us, ?_, h5⟩
  · rw [lex_bl (by decide) y x.length x p ln n _ (Nat.le_refl _) (Or.inl rfl) h1, List.length_map, lexA_one (by decide), h2]
    simp
  · rcases List.mem_append.1 hu with hu | hu
    · exact (hin u hu).1
    · have := h4 u hu
      omega
  · refine lines_app _ _ (fun t ht u hu => ?_)
    have h6 := hin t ht
    have h7 := h4 u hu
    rw [h10] at h7
    omega
theorem lines_ne2 : ∀ (X : List Tok), ∀ l ∈ linesP X, l ≠ []
  | [], l, hl => by cases hl
  | t :: X, l, hl => by
    have ih := lines_ne2 X
    rw [linesP_cons] at hl
    cases h : linesP X with
    | nil =>
      rw [h] at hl
      simp [linesC] at hl
      subst hl
      simp
    | cons r rs =>
      rw [h] at hl ih
      by_cases hq : t.line = (hd0 r).line
      · rw [linesC_pos _ hq] at hl
        simp only [List.mem_cons] at hl
        rcases hl with rfl | hl
        · simp
        · exact ih l (by simp [hl])
      · rw [linesC_neg _ hq] at hl
        simp only [List.mem_cons] at hl
        rcases hl with rfl | rfl | hl
        · simp
        · exact ih l (by simp)
        · exact ih l (by simp [hl])
theorem lines_plain {ts : List Tok} (h : ∀ t ∈ ts, plainT t = true) (dp dl : Int) : ∀ l ∈ linesP (ts.map (mvT dp dl)), l ≠ [] ∧ ∀ t ∈ l, plainT t = true := fun l hl => by
  refine ⟨lines_ne2 _ l hl, fun t ht => ?_⟩
  have : t ∈ ts.map (mvT dp dl) := by
    rw [← lines_flat (ts.map (mvT dp dl))]
    exact List.mem_flatten.2 ⟨l, hl, ht⟩
  obtain ⟨u, hu, rfl⟩ := List.mem_map.1 this
  exact h u hu
theorem hd_plain {l : List Tok} (h : l ≠ [] ∧ ∀ t ∈ l, plainT t = true) : ¬ (hd0 l).text = [35] := by
  cases l with
  | nil => exact absurd rfl h.1
  | cons t r => exact (plainT_parts (h.2 t (by simp))).1
/-- Lines that do not count. -/
theorem read_skip (ps : List Part) (hps : countsP ps = false) (tl : List Tok) (rest : List (List Tok)) : ∀ (ls : List (List Tok)) (f : Bool) (E : Env), EnvFirst E → (∀ l ∈ ls, l ≠ [] ∧ ∀ t ∈ l, plainT t = true) →
    ∃ f' E', EnvFirst E' ∧ readP f E ps tl (ls ++ rest) = readP f' E' ps tl rest
  | [], f, E, hE, _ => ⟨f, E, hE, rfl⟩
  | l :: ls, f, E, hE, h => by
    obtain ⟨f', E', h1, h2⟩ := read_skip ps hps tl rest ls false _ (hE.line (some (wholeL ((hd0 l).line + 1)))) (fun x hx => h x (by simp [hx]))
    refine ⟨f', E', h1, ?_⟩
    rw [List.cons_append, readP, if_neg (hd_plain (h l (by simp))), if_pos hps]
    exact h2
/-- Lines that count. -/
theorem read_tell (ps : List Part) (hps : countsP ps = true) (rest : List (List Tok)) : ∀ (ls : List (List Tok)) (f : Bool) (E : Env) (tl : List Tok), EnvFirst E → (∀ l ∈ ls, l ≠ [] ∧ ∀ t ∈ l, plainT t = true) → tl.length + ls.flatten.length ≤ 2048 →
    ∃ f' E', EnvFirst E' ∧ readP f E ps tl (ls ++ rest) = readP f' E' ps (tl ++ ls.flatten) rest
  | [], f, E, tl, hE, _, _ => ⟨f, E, hE, by simp⟩
  | l :: ls, f, E, tl, hE, h, hl => by
    simp only [List.flatten_cons, List.length_append] at hl
    obtain ⟨f', E', h1, h2⟩ := read_tell ps hps rest ls false _ (tl ++ l) (hE.line (some (wholeL ((hd0 l).line + 1)))) (fun x hx => h x (by simp [hx])) (by rw [List.length_append]; omega)
    refine ⟨f', E', h1, ?_⟩
    rw [List.cons_append, readP, if_neg (hd_plain (h l (by simp))), if_neg (by rw [hps]; simp), line_plain (hE.line _) l tl (h l (by simp)).2 (by omega)]
    simp only
    rw [if_neg (by simp), h2]
    simp

def wNobody : Byts8 := [78, 79, 66, 79, 68, 89]
def aIfd : Byts8 := 35 :: (tIfdef ++ 32 :: wNobody)
def aIfn : Byts8 := 35 :: (tIfndef ++ 32 :: wNobody)
def aEls : Byts8 := 35 :: tElse
def aEnd : Byts8 := 35 :: tEndif
theorem lex_ifd : lexA aIfd 0 0 0 = ([⟨4, [35], 0, 0, 0⟩, ⟨1, tIfdef, 0, 1, 0⟩, ⟨1, wNobody, 0, 7, 0⟩], 0, 0) := by
  rw [lexA_fuel 13 _ _ _ _ (by decide)]
  kernel_rfl
theorem lex_ifn : lexA aIfn 0 0 0 = ([⟨4, [35], 0, 0, 0⟩, ⟨1, tIfndef, 0, 1, 0⟩, ⟨1, wNobody, 0, 8, 0⟩], 0, 0) := by
  rw [lexA_fuel 14 _ _ _ _ (by decide)]
  kernel_rfl
theorem lex_els : lexA aEls 0 0 0 = ([⟨4, [35], 0, 0, 0⟩, ⟨1, tElse, 0, 1, 0⟩], 0, 0) := by
  rw [lexA_fuel 5 _ _ _ _ (by decide)]
  kernel_rfl
theorem lex_end : lexA aEnd 0 0 0 = ([⟨4, [35], 0, 0, 0⟩, ⟨1, tEndif, 0, 1, 0⟩], 0, 0) := by
  rw [lexA_fuel 6 _ _ _ _ (by decide)]
  kernel_rfl
/-- A directive. -/
theorem read_dir {f : Bool} {E : Env} {ps : List Part} {tl : List Tok} {t : Tok} {r : List Tok} {ls : List (List Tok)} {qs : List Part} (ht : t.text = [35]) (h : ∀ V, obeyP (setE E wLine V) ps r f = some (setE E wLine V, qs)) (hE : EnvFirst E) :
    ∃ E', EnvFirst E' ∧ readP f E ps tl ((t :: r) :: ls) = readP false E' qs tl ls := by
  refine ⟨_, hE.line (some (wholeL ((hd0 (t :: r)).line + 1))), ?_⟩
  rw [readP, if_pos (show (hd0 (t :: r)).text = [35] from ht)]
  simp only [List.tail_cons]
  rw [h]
theorem ob_ifd {E : Env} (hE : EnvFirst E) (V : Option (List Tok)) (p l p2 l2 n n2 : Int) (f : Bool) : obeyP (setE E wLine V) [] [⟨1, tIfdef, n, p, l⟩, ⟨1, wNobody, n2, p2, l2⟩] f = some (setE E wLine V, [⟨false, true, false⟩]) := by
  have hn : setE E wLine V wNobody = none := (hE.line V) _ (by decide) (by decide) (by decide)
  simp only [obeyP]
  rw [if_pos trivial]
  unfold openP
  rw [if_neg (by decide), if_neg (by show ¬ decide ((1 : Int) = 1) = false; decide)]
  have e : (hd0 [(⟨1, wNobody, n2, p2, l2⟩ : Tok)]).text = wNobody := rfl
  rw [e, hn]
  rfl
theorem ob_ifn {E : Env} (hE : EnvFirst E) (V : Option (List Tok)) (p l p2 l2 n n2 : Int) (f : Bool) : obeyP (setE E wLine V) [] [⟨1, tIfndef, n, p, l⟩, ⟨1, wNobody, n2, p2, l2⟩] f = some (setE E wLine V, [⟨true, false, false⟩]) := by
  have hn : setE E wLine V wNobody = none := (hE.line V) _ (by decide) (by decide) (by decide)
  simp only [obeyP]
  rw [if_neg (by decide), if_pos trivial]
  unfold openP
  rw [if_neg (by decide), if_neg (by show ¬ decide ((1 : Int) = 1) = false; decide)]
  have e : (hd0 [(⟨1, wNobody, n2, p2, l2⟩ : Tok)]).text = wNobody := rfl
  rw [e, hn]
  rfl
theorem ob_els {E : Env} (V : Option (List Tok)) (a b : Bool) (p l n : Int) (f : Bool) : obeyP (setE E wLine V) [⟨a, b, false⟩] [⟨1, tElse, n, p, l⟩] f = some (setE E wLine V, [⟨b, b, true⟩]) := by
  simp only [obeyP]
  rw [if_neg (by decide), if_neg (by decide), if_pos trivial]
  rfl
theorem ob_end {E : Env} (V : Option (List Tok)) (q : Part) (p l n : Int) (f : Bool) : obeyP (setE E wLine V) [q] [⟨1, tEndif, n, p, l⟩] f = some (setE E wLine V, []) := by
  simp only [obeyP]
  rw [if_neg (by decide), if_neg (by decide), if_neg (by decide), if_pos trivial]
  rfl
/-- What PreSkips' texts are told as. -/
theorem skips_run {S Kp : Byts8} {xs ys : List Tok} (hS : lexA S 0 0 0 = (xs, 0, 0)) (hK : lexA Kp 0 0 0 = (ys, 0, 0)) (px : ∀ t ∈ xs, plainT t = true) (py : ∀ t ∈ ys, plainT t = true) (hn : xs.length + ys.length ≤ 2028) (hl : S.length + Kp.length ≤ 4000) :
    (∃ dp dl, runP (aIfd ++ 10 :: (S ++ 10 :: (aEls ++ 10 :: (Kp ++ 10 :: aEnd)))) = (ys.map (mvT dp dl), 0, 0)) ∧ (∃ dp dl, runP (aIfn ++ 10 :: (Kp ++ 10 :: (aEls ++ 10 :: (S ++ 10 :: aEnd)))) = (ys.map (mvT dp dl), 0, 0)) := by
  have e13 : aIfd.length = 13 := rfl
  have e14 : aIfn.length = 14 := rfl
  have e5 : aEls.length = 5 := rfl
  have e6 : aEnd.length = 6 := rfl
  constructor
  · obtain ⟨us, h1, h2, _, d1, l1, L2, h4, d2, l2, L3, h5, d3, l3, L4, h6, d4, l4, L5, h7, d5, l5, h8⟩ := tells_cons lex_ifd (tells_cons hS (tells_cons lex_els (tells_cons hK (tells_one lex_end)))) 0 0 0 (by simp; omega)
    refine ⟨d4, l4, ?_⟩
    have hP : lexP (aIfd ++ 10 :: (S ++ 10 :: (aEls ++ 10 :: (Kp ++ 10 :: aEnd)))) = (us, 0, 0) := by
      unfold lexP
      rw [if_neg (by simp only [List.length_append, List.length_cons]; omega), h1]
    have hr : readP true beginE [] [] (linesP us) = ((ys.map (mvT d4 l4), []), 0, 0) := by
      rw [h4, h5, h6, h7, h8]
      obtain ⟨E1, q1, r1⟩ := read_dir (f := true) (E := beginE) (ps := []) (tl := []) (t := mvT d1 l1 ⟨4, [35], 0, 0, 0⟩) (r := [mvT d1 l1 ⟨1, tIfdef, 0, 1, 0⟩, mvT d1 l1 ⟨1, wNobody, 0, 7, 0⟩]) (ls := linesP (xs.map (mvT d2 l2)) ++ (linesP ([⟨4, [35], 0, 0, 0⟩, ⟨1, tElse, 0, 1, 0⟩].map (mvT d3 l3)) ++ (linesP (ys.map (mvT d4 l4)) ++ linesP ([⟨4, [35], 0, 0, 0⟩, ⟨1, tEndif, 0, 1, 0⟩].map (mvT d5 l5))))) rfl (fun V => ob_ifd begin_first V _ _ _ _ _ _ _) begin_first
      have s1 : linesP ([⟨4, [35], 0, 0, 0⟩, ⟨1, tIfdef, 0, 1, 0⟩, ⟨1, wNobody, 0, 7, 0⟩].map (mvT d1 l1)) = [[mvT d1 l1 ⟨4, [35], 0, 0, 0⟩, mvT d1 l1 ⟨1, tIfdef, 0, 1, 0⟩, mvT d1 l1 ⟨1, wNobody, 0, 7, 0⟩]] := lines_one (0 + l1) _ (by simp) (by simp [mvT])
      rw [s1, List.singleton_append, r1]
      obtain ⟨f2, E2, q2, r2⟩ := read_skip [⟨false, true, false⟩] rfl [] (linesP ([⟨4, [35], 0, 0, 0⟩, ⟨1, tElse, 0, 1, 0⟩].map (mvT d3 l3)) ++ (linesP (ys.map (mvT d4 l4)) ++ linesP ([⟨4, [35], 0, 0, 0⟩, ⟨1, tEndif, 0, 1, 0⟩].map (mvT d5 l5)))) _ false E1 q1 (lines_plain px d2 l2)
      rw [r2]
      have s3 : linesP ([⟨4, [35], 0, 0, 0⟩, ⟨1, tElse, 0, 1, 0⟩].map (mvT d3 l3)) = [[mvT d3 l3 ⟨4, [35], 0, 0, 0⟩, mvT d3 l3 ⟨1, tElse, 0, 1, 0⟩]] := lines_one (0 + l3) _ (by simp) (by simp [mvT])
      rw [s3, List.singleton_append]
      obtain ⟨E3, q3, r3⟩ := read_dir (f := f2) (E := E2) (ps := [⟨false, true, false⟩]) (tl := []) (t := mvT d3 l3 ⟨4, [35], 0, 0, 0⟩) (r := [mvT d3 l3 ⟨1, tElse, 0, 1, 0⟩]) (ls := linesP (ys.map (mvT d4 l4)) ++ linesP ([⟨4, [35], 0, 0, 0⟩, ⟨1, tEndif, 0, 1, 0⟩].map (mvT d5 l5))) rfl (fun V => ob_els V _ _ _ _ _ _) q2
      rw [r3]
      obtain ⟨f4, E4, q4, r4⟩ := read_tell [⟨true, true, true⟩] rfl (linesP ([⟨4, [35], 0, 0, 0⟩, ⟨1, tEndif, 0, 1, 0⟩].map (mvT d5 l5))) _ false E3 [] q3 (lines_plain py d4 l4) (by rw [lines_flat]; simp; omega)
      rw [r4, lines_flat, List.nil_append]
      have s5 : linesP ([⟨4, [35], 0, 0, 0⟩, ⟨1, tEndif, 0, 1, 0⟩].map (mvT d5 l5)) = [[mvT d5 l5 ⟨4, [35], 0, 0, 0⟩, mvT d5 l5 ⟨1, tEndif, 0, 1, 0⟩]] := lines_one (0 + l5) _ (by simp) (by simp [mvT])
      rw [s5]
      obtain ⟨E5, q5, r5⟩ := read_dir (f := f4) (E := E4) (ps := [⟨true, true, true⟩]) (tl := ys.map (mvT d4 l4)) (t := mvT d5 l5 ⟨4, [35], 0, 0, 0⟩) (r := [mvT d5 l5 ⟨1, tEndif, 0, 1, 0⟩]) (ls := []) rfl (fun V => ob_end V _ _ _ _ _) q4
      rw [r5]
      rfl
    unfold runP
    rw [hP]
    simp only
    rw [if_neg (by simp), hr]
    simp
  · obtain ⟨us, h1, h2, _, d1, l1, L2, h4, d2, l2, L3, h5, d3, l3, L4, h6, d4, l4, L5, h7, d5, l5, h8⟩ := tells_cons lex_ifn (tells_cons hK (tells_cons lex_els (tells_cons hS (tells_one lex_end)))) 0 0 0 (by simp; omega)
    refine ⟨d2, l2, ?_⟩
    have hP : lexP (aIfn ++ 10 :: (Kp ++ 10 :: (aEls ++ 10 :: (S ++ 10 :: aEnd)))) = (us, 0, 0) := by
      unfold lexP
      rw [if_neg (by simp only [List.length_append, List.length_cons]; omega), h1]
    have hr : readP true beginE [] [] (linesP us) = ((ys.map (mvT d2 l2), []), 0, 0) := by
      rw [h4, h5, h6, h7, h8]
      obtain ⟨E1, q1, r1⟩ := read_dir (f := true) (E := beginE) (ps := []) (tl := []) (t := mvT d1 l1 ⟨4, [35], 0, 0, 0⟩) (r := [mvT d1 l1 ⟨1, tIfndef, 0, 1, 0⟩, mvT d1 l1 ⟨1, wNobody, 0, 8, 0⟩]) (ls := linesP (ys.map (mvT d2 l2)) ++ (linesP ([⟨4, [35], 0, 0, 0⟩, ⟨1, tElse, 0, 1, 0⟩].map (mvT d3 l3)) ++ (linesP (xs.map (mvT d4 l4)) ++ linesP ([⟨4, [35], 0, 0, 0⟩, ⟨1, tEndif, 0, 1, 0⟩].map (mvT d5 l5))))) rfl (fun V => ob_ifn begin_first V _ _ _ _ _ _ _) begin_first
      have s1 : linesP ([⟨4, [35], 0, 0, 0⟩, ⟨1, tIfndef, 0, 1, 0⟩, ⟨1, wNobody, 0, 8, 0⟩].map (mvT d1 l1)) = [[mvT d1 l1 ⟨4, [35], 0, 0, 0⟩, mvT d1 l1 ⟨1, tIfndef, 0, 1, 0⟩, mvT d1 l1 ⟨1, wNobody, 0, 8, 0⟩]] := lines_one (0 + l1) _ (by simp) (by simp [mvT])
      rw [s1, List.singleton_append, r1]
      obtain ⟨f2, E2, q2, r2⟩ := read_tell [⟨true, false, false⟩] rfl (linesP ([⟨4, [35], 0, 0, 0⟩, ⟨1, tElse, 0, 1, 0⟩].map (mvT d3 l3)) ++ (linesP (xs.map (mvT d4 l4)) ++ linesP ([⟨4, [35], 0, 0, 0⟩, ⟨1, tEndif, 0, 1, 0⟩].map (mvT d5 l5)))) _ false E1 [] q1 (lines_plain py d2 l2) (by rw [lines_flat]; simp; omega)
      rw [r2, lines_flat, List.nil_append]
      have s3 : linesP ([⟨4, [35], 0, 0, 0⟩, ⟨1, tElse, 0, 1, 0⟩].map (mvT d3 l3)) = [[mvT d3 l3 ⟨4, [35], 0, 0, 0⟩, mvT d3 l3 ⟨1, tElse, 0, 1, 0⟩]] := lines_one (0 + l3) _ (by simp) (by simp [mvT])
      rw [s3, List.singleton_append]
      obtain ⟨E3, q3, r3⟩ := read_dir (f := f2) (E := E2) (ps := [⟨true, false, false⟩]) (tl := ys.map (mvT d2 l2)) (t := mvT d3 l3 ⟨4, [35], 0, 0, 0⟩) (r := [mvT d3 l3 ⟨1, tElse, 0, 1, 0⟩]) (ls := linesP (xs.map (mvT d4 l4)) ++ linesP ([⟨4, [35], 0, 0, 0⟩, ⟨1, tEndif, 0, 1, 0⟩].map (mvT d5 l5))) rfl (fun V => ob_els V _ _ _ _ _ _) q2
      rw [r3]
      obtain ⟨f4, E4, q4, r4⟩ := read_skip [⟨false, false, true⟩] rfl (ys.map (mvT d2 l2)) (linesP ([⟨4, [35], 0, 0, 0⟩, ⟨1, tEndif, 0, 1, 0⟩].map (mvT d5 l5))) _ false E3 q3 (lines_plain px d4 l4)
      rw [r4]
      have s5 : linesP ([⟨4, [35], 0, 0, 0⟩, ⟨1, tEndif, 0, 1, 0⟩].map (mvT d5 l5)) = [[mvT d5 l5 ⟨4, [35], 0, 0, 0⟩, mvT d5 l5 ⟨1, tEndif, 0, 1, 0⟩]] := lines_one (0 + l5) _ (by simp) (by simp [mvT])
      rw [s5]
      obtain ⟨E5, q5, r5⟩ := read_dir (f := f4) (E := E4) (ps := [⟨false, false, true⟩]) (tl := ys.map (mvT d2 l2)) (t := mvT d5 l5 ⟨4, [35], 0, 0, 0⟩) (r := [mvT d5 l5 ⟨1, tEndif, 0, 1, 0⟩]) (ls := []) rfl (fun V => ob_end V _ _ _ _ _) q4
      rw [r5]
      rfl
    unfold runP
    rw [hP]
    simp only
    rw [if_neg (by simp), hr]
    simp
end Go.Proofs.YtinnikggaflpdaaDoor
