/-
  A tree out of tokens, plain: words, nodes with their kids' places, the grammar's rules. A rule answers how many tokens are taken by then, and what comes, or nothing: the next token can't stand there.
-/
import Derived.Test.YtjfhhhabcbkahaaGreatXA
namespace Go.Proofs.YtjfhhhabcbkahaaGreat
set_option linter.unusedVariables false

def typesW : List Byts8 := [[118, 111, 105, 100], [102, 108, 111, 97, 116], [118, 101, 99, 50], [118, 101, 99, 51], [118, 101, 99, 52], [105, 110, 116], [105, 118, 101, 99, 50], [105, 118, 101, 99, 51], [105, 118, 101, 99, 52], [98, 111, 111, 108], [98, 118, 101, 99, 50], [98, 118, 101, 99, 51], [98, 118, 101, 99, 52], [115, 97, 109, 112, 108, 101, 114, 50, 68]]
def resW : List Byts8 := [[97, 116, 116, 114, 105, 98, 117, 116, 101], [117, 110, 105, 102, 111, 114, 109], [118, 97, 114, 121, 105, 110, 103], [99, 111, 110, 115, 116], [105, 102], [101, 108, 115, 101], [102, 111, 114], [114, 101, 116, 117, 114, 110], [100, 105, 115, 99, 97, 114, 100], [116, 114, 117, 101], [102, 97, 108, 115, 101], [119, 104, 105, 108, 101], [100, 111], [98, 114, 101, 97, 107], [99, 111, 110, 116, 105, 110, 117, 101], [105, 110], [111, 117, 116], [105, 110, 111, 117, 116], [115, 116, 114, 117, 99, 116], [112, 114, 101, 99, 105, 115, 105, 111, 110], [108, 111, 119, 112], [109, 101, 100, 105, 117, 109, 112], [104, 105, 103, 104, 112]]
def isTypeW (t : Byts8) : Bool := typesW.contains t
def isResW (t : Byts8) : Bool := resW.contains t || isTypeW t
/-- A node: its kids by how far behind it they stand, and how deep it lies. -/
structure Nd where
  kind : Int
  ty : Byts8
  text : Byts8
  num : Int
  place : Int
  kids : List Nat
  deep : Nat
def offs : Nat → List (List Nd) → List Nat
  | _, [] => []
  | k, l :: ls => k :: offs (k + l.length) ls
def upN (x : Nd) : Nd := ⟨x.kind, x.ty, x.text, x.num, x.place, x.kids, x.deep + 1⟩
/-- A node and all within it. -/
def mkN (kind : Int) (ty text : Byts8) (num place : Int) (ks : List (List Nd)) : List Nd := ⟨kind, ty, text, num, place, offs 1 ks, 0⟩ :: ks.flatten.map upN
def bnd {A B : Type} (r : Nat × Option A) (f : Nat → A → Nat × Option B) : Nat × Option B :=
  match r.2 with
  | none => (r.1, none)
  | some a => f r.1 a
abbrev Rp := Nat × Option (List Nd)
abbrev Rl := Nat × Option (List (List Nd))
def noTok : Tok := ⟨0, [], 0, 0, 0⟩
def tk (L : List Tok) (i : Nat) : Tok := L.getD i noTok
def isNm (L : List Tok) (i : Nat) : Bool := decide ((tk L i).kind = 1) && !isResW (tk L i).text
def takeP (L : List Tok) (may : Bool) (i : Nat) : Nat × Option Tok := if may = true then (i + 1, some (tk L i)) else (i, none)
def needP (L : List Tok) : List Byts8 → Nat → Nat × Option Unit
  | [], i => (i, some ())
  | t :: ts, i => if (tk L i).text = t then needP L ts (i + 1) else (i, none)
def sevL (L : List Tok) (rule : Nat → Rp) : Nat → List (List Nd) → Nat → Rl
  | 0, _, i => (i, none)
  | n + 1, acc, i => if (tk L i).text = [44] then bnd (rule (i + 1)) (fun j x => sevL L rule n (acc ++ [x]) j) else (i, some acc)
def sevP (L : List Tok) (rule : Nat → Rp) (i : Nat) : Rl := bnd (rule i) (fun j x => sevL L rule (L.length + 1) [x] j)
def encP (L : List Tok) (rule : Nat → Rp) (i : Nat) : Rl :=
  bnd (needP L [[40]] i) (fun j _ => if (tk L j).text = [41] then (j + 1, some []) else bnd (sevP L rule j) (fun k l => bnd (needP L [[41]] k) (fun m _ => (m, some l))))
def operP (L : List Tok) (kind : Int) (side : List Nd) (rule : Nat → Rp) (i : Nat) : Rp :=
  bnd (rule (i + 1)) (fun j y => (j, some (mkN kind [] (tk L i).text 0 (tk L i).place [side, y])))
def kindL (x : List Nd) : Int := match x with | [] => 0 | n :: _ => n.kind
def isPl (x : List Nd) : Bool := decide (kindL x = 19) || decide (kindL x = 18)
def asgW : List Byts8 := [[61], [43, 61], [45, 61], [42, 61], [47, 61]]
def turnW : List Byts8 := [[45], [33]]
def opsW (k : Nat) : List Byts8 := match k with | 0 => [[124, 124]] | 1 => [[38, 38]] | 2 => [[61, 61], [33, 61]] | 3 => [[60], [62], [60, 61], [62, 61]] | 4 => [[43], [45]] | _ => [[42], [47]]
def exprP (L : List Tok) (rec : Nat → Nat → Rp) (i : Nat) : Rp :=
  bnd (rec 1 i) (fun j x => if (isPl x && asgW.contains (tk L j).text) = true then operP L 13 x (rec 0) j else (j, some x))
def condP (L : List Tok) (rec : Nat → Nat → Rp) (i : Nat) : Rp :=
  bnd (rec 2 i) (fun j x => if (tk L j).text = [63] then bnd (rec 0 (j + 1)) (fun k y => bnd (needP L [[58]] k) (fun m _ => bnd (rec 1 m) (fun q z => (q, some (mkN 14 [] [] 0 (tk L j).place [x, y, z]))))) else (j, some x))
def rowL (L : List Tok) (side : Nat → Rp) (ops : List Byts8) : Nat → List Nd → Nat → Rp
  | 0, _, i => (i, none)
  | n + 1, x, i => if ops.contains (tk L i).text = true then bnd (operP L 15 x side i) (fun j y => rowL L side ops n y j) else (i, some x)
def rowP (L : List Tok) (rec : Nat → Nat → Rp) (k : Nat) (i : Nat) : Rp := bnd (rec (3 + k) i) (fun j x => rowL L (rec (3 + k)) (opsW k) (L.length + 1) x j)
def unaryP (L : List Tok) (rec : Nat → Nat → Rp) (i : Nat) : Rp :=
  if turnW.contains (tk L i).text = true then bnd (rec 8 (i + 1)) (fun j x => (j, some (mkN 16 [] (tk L i).text 0 (tk L i).place [x]))) else rec 9 i
def postL (L : List Tok) : Nat → List Nd → Nat → Rp
  | 0, _, i => (i, none)
  | n + 1, x, i => if (tk L i).text = [46] then bnd (takeP L (isNm L (i + 1)) (i + 1)) (fun j t => postL L n (mkN 18 [] t.text 0 (tk L (i + 1)).place [x]) j) else (i, some x)
def postP (L : List Tok) (rec : Nat → Nat → Rp) (i : Nat) : Rp := bnd (rec 10 i) (fun j x => postL L (L.length + 1) x j)
def firstP (L : List Tok) (rec : Nat → Nat → Rp) (i : Nat) : Rp :=
  if (tk L i).text = [40] then bnd (rec 0 (i + 1)) (fun j x => bnd (needP L [[41]] j) (fun k _ => (k, some x)))
  else if (tk L i).kind = 2 then (i + 1, some (mkN 20 [] [] (tk L i).num (tk L i).place []))
  else if (tk L i).kind = 3 then (i + 1, some (mkN 21 [] [] (tk L i).num (tk L i).place []))
  else if (tk L i).text = [116, 114, 117, 101] ∨ (tk L i).text = [102, 97, 108, 115, 101] then (i + 1, some (mkN 22 [] (tk L i).text 0 (tk L i).place []))
  else if isTypeW (tk L i).text = true ∨ (tk L (i + 1)).text = [40] then rec 11 i
  else bnd (takeP L (isNm L i) i) (fun j t => (j, some (mkN 19 [] t.text 0 (tk L i).place [])))
def callP (L : List Tok) (rec : Nat → Nat → Rp) (i : Nat) : Rp :=
  bnd (takeP L (isNm L i || isTypeW (tk L i).text) i) (fun j t => bnd (encP L (rec 0) j) (fun k l => (k, some (mkN 17 [] t.text 0 (tk L i).place l))))
def varP (L : List Tok) (rec : Nat → Nat → Rp) (i : Nat) : Rp :=
  bnd (takeP L (isNm L i) i) (fun j t => if (tk L j).text = [61] then bnd (rec 0 (j + 1)) (fun k x => (k, some (mkN 3 [] t.text 0 (tk L i).place [x]))) else (j, some (mkN 3 [] t.text 0 (tk L i).place [])))
/-- The rest of a decl, behind what stands ahead of its type. -/
def declR (L : List Tok) (rec : Nat → Nat → Rp) (place : Int) (text : Byts8) (i : Nat) : Rp :=
  bnd (takeP L (isTypeW (tk L i).text) i) (fun k t => bnd (sevP L (varP L rec) k) (fun m vs => bnd (needP L [[59]] m) (fun q _ => (q, some (mkN 2 t.text text 0 place vs)))))
def declP (L : List Tok) (rec : Nat → Nat → Rp) (words : List Byts8) (i : Nat) : Rp :=
  if words.contains (tk L i).text = true then declR L rec (tk L i).place (tk L i).text (i + 1) else declR L rec (tk L i).place [] i
def outerW : List Byts8 := [[97, 116, 116, 114, 105, 98, 117, 116, 101], [117, 110, 105, 102, 111, 114, 109], [118, 97, 114, 121, 105, 110, 103], [99, 111, 110, 115, 116]]
def localW : List Byts8 := [[99, 111, 110, 115, 116]]
def paramP (L : List Tok) (i : Nat) : Rp :=
  bnd (takeP L (isTypeW (tk L i).text) i) (fun j t => bnd (takeP L (isNm L j) j) (fun k u => (k, some (mkN 5 t.text u.text 0 (tk L j).place []))))
def funcP (L : List Tok) (rec : Nat → Nat → Rp) (i : Nat) : Rp :=
  bnd (takeP L (isTypeW (tk L i).text) i) (fun j t => bnd (takeP L (isNm L j) j) (fun k u => bnd (encP L (paramP L) k) (fun m ps => bnd (rec 13 m) (fun q b => (q, some (mkN 4 t.text u.text 0 (tk L i).place (ps ++ [b])))))))
def blockL (L : List Tok) (rule : Nat → Rp) : Nat → List (List Nd) → Nat → Rl
  | 0, _, i => (i, none)
  | n + 1, acc, i => if (tk L i).text = [125] then (i + 1, some acc) else bnd (rule i) (fun j x => blockL L rule n (acc ++ [x]) j)
def blockP (L : List Tok) (rec : Nat → Nat → Rp) (i : Nat) : Rp :=
  bnd (needP L [[123]] i) (fun j _ => bnd (blockL L (rec 12) (L.length + 1) [] j) (fun k l => (k, some (mkN 6 [] [] 0 (tk L i).place l))))
def branchP (L : List Tok) (rec : Nat → Nat → Rp) (i : Nat) : Rp :=
  bnd (needP L [[105, 102], [40]] i) (fun j _ => bnd (rec 0 j) (fun k x => bnd (needP L [[41]] k) (fun m _ => bnd (rec 12 m) (fun q y =>
    if (tk L q).text = [101, 108, 115, 101] then bnd (rec 12 (q + 1)) (fun s z => (s, some (mkN 7 [] [] 0 (tk L i).place [x, y, z]))) else (q, some (mkN 7 [] [] 0 (tk L i).place [x, y]))))))
def boundR (L : List Tok) (below : Bool) (place : Int) (i : Nat) : Rp :=
  bnd (takeP L (decide ((tk L i).kind = 2)) i) (fun j t => (j, some (mkN 20 [] [] (if below = true then negI t.num else t.num) place [])))
def boundP (L : List Tok) (i : Nat) : Rp := if (tk L i).text = [45] then boundR L true (tk L i).place (i + 1) else boundR L false (tk L i).place i
def loopP (L : List Tok) (rec : Nat → Nat → Rp) (i : Nat) : Rp :=
  bnd (needP L [[102, 111, 114], [40], [105, 110, 116]] i) (fun j _ => bnd (takeP L (isNm L j) j) (fun k t => bnd (needP L [[61]] k) (fun m _ => bnd (boundP L m) (fun q x =>
    bnd (needP L [[59], t.text, [60]] q) (fun s _ => bnd (boundP L s) (fun u y => bnd (needP L [[59], t.text, [43, 43], [41]] u) (fun v _ => bnd (rec 12 v) (fun z b =>
      (z, some (mkN 8 [] t.text 0 (tk L i).place [x, y, b]))))))))))
def leaveP (L : List Tok) (rec : Nat → Nat → Rp) (i : Nat) : Rp :=
  bnd (needP L [[114, 101, 116, 117, 114, 110]] i) (fun j _ => if (tk L j).text = [59] then bnd (needP L [[59]] j) (fun m _ => (m, some (mkN 9 [] [] 0 (tk L i).place [])))
    else bnd (rec 0 j) (fun k x => bnd (needP L [[59]] k) (fun m _ => (m, some (mkN 9 [] [] 0 (tk L i).place [x])))))
def stmtP (L : List Tok) (rec : Nat → Nat → Rp) (i : Nat) : Rp :=
  if (tk L i).text = [123] then rec 13 i
  else if (tk L i).text = [105, 102] then rec 14 i
  else if (tk L i).text = [102, 111, 114] then rec 15 i
  else if (tk L i).text = [114, 101, 116, 117, 114, 110] then rec 16 i
  else if (tk L i).text = [100, 105, 115, 99, 97, 114, 100] then bnd (needP L [[100, 105, 115, 99, 97, 114, 100], [59]] i) (fun j _ => (j, some (mkN 10 [] [] 0 (tk L i).place [])))
  else if (tk L i).text = [59] then bnd (needP L [[59]] i) (fun j _ => (j, some (mkN 12 [] [] 0 (tk L i).place [])))
  else if (tk L i).text = [99, 111, 110, 115, 116] ∨ isTypeW (tk L i).text = true ∧ (tk L (i + 1)).text ≠ [40] then declP L rec localW i
  else bnd (rec 0 i) (fun j x => bnd (needP L [[59]] j) (fun k _ => (k, some (mkN 11 [] [] 0 (tk L i).place [x]))))
/-- The rules that call one another, by their numbers. -/
def ruleP (L : List Tok) (rec : Nat → Nat → Rp) (r i : Nat) : Rp :=
  match r with
  | 0 => exprP L rec i
  | 1 => condP L rec i
  | 2 => rowP L rec 0 i
  | 3 => rowP L rec 1 i
  | 4 => rowP L rec 2 i
  | 5 => rowP L rec 3 i
  | 6 => rowP L rec 4 i
  | 7 => rowP L rec 5 i
  | 8 => unaryP L rec i
  | 9 => postP L rec i
  | 10 => firstP L rec i
  | 11 => callP L rec i
  | 12 => stmtP L rec i
  | 13 => blockP L rec i
  | 14 => branchP L rec i
  | 15 => loopP L rec i
  | _ => leaveP L rec i
def goP (L : List Tok) : Nat → Nat → Nat → Rp
  | 0, _, i => (i, none)
  | f + 1, r, i => ruleP L (goP L f) r i
def fuelP (L : List Tok) : Nat := 20 * L.length + 20
def shadL (L : List Tok) (rec : Nat → Nat → Rp) : Nat → List (List Nd) → Nat → Rl
  | 0, _, i => (i, none)
  | n + 1, acc, i => if i < L.length then
      bnd (if (isTypeW (tk L i).text && (tk L (i + 2)).text == [40]) = true then funcP L rec i else declP L rec outerW i) (fun j x => shadL L rec n (acc ++ [x]) j)
    else (i, some acc)
def shadP (L : List Tok) : Rp := bnd (shadL L (goP L (fuelP L)) (L.length + 1) [] 0) (fun j l => (j, some (mkN 1 [] [] 0 0 l)))
/-- Where the next token stands. -/
def hereP (L : List Tok) (i : Nat) : Int := if i < L.length then (tk L i).place else IntKind.i64.wrap ((tk L (L.length - 1)).place + (tk L (L.length - 1)).text.length)
def tooDeep (x : List Nd) : Option Nd := x.find? (fun n => decide (32 < n.deep))
/-- The tree of tokens; or what is wrong with them, and where. -/
def treeP (L : List Tok) : List Nd × Int × Int :=
  match (shadP L).2 with
  | none => ([], 220, hereP L (shadP L).1)
  | some x => match tooDeep x with
    | some n => ([], 3, n.place)
    | none => (x, 0, 0)
end Go.Proofs.YtjfhhhabcbkahaaGreat
