/-
  What stands behind a #, plain: lines, parts, words that stand for others; what a text is told as.
-/
import Derived.Test.YtdcamcpffiilbaaDoorXG
import Derived.Test.YtdcamcpffiilbaaDoorXP
import Derived.Lib.ItoaLen
namespace Go.Proofs.YtdcamcpffiilbaaDoor
set_option linter.unusedVariables false
set_option linter.unusedSimpArgs false

/-- What words stand for. -/
abbrev Env := Byts8 → Option (List Tok)
def setE (E : Env) (k : Byts8) (v : Option (List Tok)) : Env := fun k' => if k' = k then v else E k'
def wLine : Byts8 := [95, 95, 76, 73, 78, 69, 95, 95]
def wVers : Byts8 := [95, 95, 86, 69, 82, 83, 73, 79, 78, 95, 95]
def wGles : Byts8 := [71, 76, 95, 69, 83]
/-- The tokens of an int's text. -/
def wholeL (n : Int) : List Tok := (lexP (Lib.itoa n)).1
def beginE : Env := setE (setE (fun _ => none) wGles (some (wholeL 1))) wVers (some (wholeL 100))
def isWordL : List Tok → Bool
  | [t] => decide (t.kind = 1)
  | _ => false
def hd0 (l : List Tok) : Tok := l.headD ⟨0, [], 0, 0, 0⟩
def freshP (t : Byts8) : Bool := isWordL (lexP t).1 && (hd0 (lexP t).1).text == t && !Lib.hasPrefix t [71, 76, 95] && !Lib.contains t [95, 95]
/-- A part: whether it counts, whether its other half would, whether there was an else. -/
structure Part where
  counts : Bool
  other : Bool
  turned : Bool
def countsP (ps : List Part) : Bool := match ps.getLast? with | none => true | some p => p.counts
def openP (E : Env) (ps : List Part) (rest : List Tok) (wanted : Bool) : Option (List Part) :=
  if countsP ps = false then some (ps ++ [⟨false, false, false⟩])
  else if isWordL rest = false then none
  else some (ps ++ [⟨(E (hd0 rest).text).isSome == wanted, (E (hd0 rest).text).isSome != wanted, false⟩])
def turnP (ps : List Part) : Option (List Part) :=
  match ps.getLast? with
  | none => none
  | some p => if p.turned = true then none else some (ps.dropLast ++ [⟨p.other, p.other, true⟩])
def endP (ps : List Part) : Option (List Part) := if ps = [] then none else some ps.dropLast
def defineP (E : Env) (rest : List Tok) : Option Env :=
  if rest = [] ∨ freshP (hd0 rest).text = false then none
  else if (E (hd0 rest).text).isSome = true then none
  else some (setE E (hd0 rest).text (some rest.tail))
def undefP (E : Env) (rest : List Tok) : Option Env :=
  if isWordL rest = false ∨ freshP (hd0 rest).text = false then none else some (setE E (hd0 rest).text none)
def tIfdef : Byts8 := [105, 102, 100, 101, 102]
def tIfndef : Byts8 := [105, 102, 110, 100, 101, 102]
def tElse : Byts8 := [101, 108, 115, 101]
def tEndif : Byts8 := [101, 110, 100, 105, 102]
def tVersion : Byts8 := [118, 101, 114, 115, 105, 111, 110]
def tDefine : Byts8 := [100, 101, 102, 105, 110, 101]
def tUndef : Byts8 := [117, 110, 100, 101, 102]
/-- What a directive does: none: it may not be there. -/
def obeyP (E : Env) (ps : List Part) (l : List Tok) (first : Bool) : Option (Env × List Part) :=
  match l with
  | [] => some (E, ps)
  | t :: rest =>
    if t.text = tIfdef then (openP E ps rest true).map (fun q => (E, q))
    else if t.text = tIfndef then (openP E ps rest false).map (fun q => (E, q))
    else if t.text = tElse then (turnP ps).map (fun q => (E, q))
    else if t.text = tEndif then (endP ps).map (fun q => (E, q))
    else if countsP ps = false then some (E, ps)
    else if t.text = tVersion then (if first = true ∧ sameK rest (wholeL 100) = true then some (E, ps) else none)
    else if t.text = tDefine then (defineP E rest).map (fun F => (F, ps))
    else if t.text = tUndef then (undefP E rest).map (fun F => (F, ps))
    else none
/-- Token by token. -/
def expL (f : Tok → Nat → Option (List Tok × Nat)) : List Tok → Nat → Option (List Tok × Nat)
  | [], d => some ([], d)
  | t :: ts, d => match f t d with
    | none => none
    | some (xs, d1) => match expL f ts d1 with
      | none => none
      | some (ys, d2) => some (xs ++ ys, d2)
/-- What a token is told as, within words, at a place; how many words were replaced by then; none: too many. -/
def expT (E : Env) (pl ln : Int) : Nat → List Byts8 → Tok → Nat → Option (List Tok × Nat)
  | 0, wi, t, d => if (wi.contains t.text || (E t.text).isNone) = true then some ([⟨t.kind, t.text, t.num, pl, ln⟩], d) else none
  | f + 1, wi, t, d => if (wi.contains t.text || (E t.text).isNone) = true then some ([⟨t.kind, t.text, t.num, pl, ln⟩], d)
    else if 2048 < d + 1 then none else expL (expT E pl ln f (t.text :: wi)) ((E t.text).getD []) (d + 1)
/-- A token of the text is told. -/
def toldP (E : Env) (tl : List Tok) (t : Tok) : Option (List Tok) :=
  match expT E t.place t.line 2049 [] t 0 with
  | none => none
  | some (xs, _) => if tl.length + xs.length ≤ 2048 then some (tl ++ xs) else none
/-- A line of them; or the place of the one that is too much. -/
def lineP (E : Env) : List Tok → List Tok → List Tok × Int × Int
  | tl, [] => (tl, 0, 0)
  | tl, t :: ts => match toldP E tl t with
    | none => ([], 3, t.place)
    | some tl' => lineP E tl' ts
/-- Tokens with one Line that stand side by side. -/
def linesP : List Tok → List (List Tok)
  | [] => []
  | t :: ts => match linesP ts with
    | [] => [[t]]
    | r :: rs => if t.line = (hd0 r).line then (t :: r) :: rs else [t] :: r :: rs
/-- Line by line: what is told, which parts are open; or what is wrong, and where. -/
def readP : Bool → Env → List Part → List Tok → List (List Tok) → (List Tok × List Part) × Int × Int
  | _, E, ps, tl, [] => ((tl, ps), 0, 0)
  | first, E, ps, tl, l :: ls =>
    if (hd0 l).text = [35] then
      match obeyP (setE E wLine (some (wholeL ((hd0 l).line + 1)))) ps l.tail first with
      | none => (([], []), 210, (hd0 l).place)
      | some (E2, ps2) => readP false E2 ps2 tl ls
    else if countsP ps = false then readP false (setE E wLine (some (wholeL ((hd0 l).line + 1)))) ps tl ls
    else if (lineP (setE E wLine (some (wholeL ((hd0 l).line + 1)))) tl l).2.1 ≠ 0 then (([], []), (lineP (setE E wLine (some (wholeL ((hd0 l).line + 1)))) tl l).2)
    else readP false (setE E wLine (some (wholeL ((hd0 l).line + 1)))) ps (lineP (setE E wLine (some (wholeL ((hd0 l).line + 1)))) tl l).1 ls
/-- What a text is told as. -/
def runP (s : Byts8) : List Tok × Int × Int :=
  if (lexP s).2.1 ≠ 0 then ([], (lexP s).2)
  else if (readP true beginE [] [] (linesP (lexP s).1)).2.1 ≠ 0 then ([], (readP true beginE [] [] (linesP (lexP s).1)).2)
  else if (readP true beginE [] [] (linesP (lexP s).1)).1.2 ≠ [] then ([], 210, (s.length : Int))
  else ((readP true beginE [] [] (linesP (lexP s).1)).1.1, 0, 0)
end Go.Proofs.YtdcamcpffiilbaaDoor
