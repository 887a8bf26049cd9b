/-
  Nodes in order, plain: their kids by their numbers; the first one that lies too deep.
-/
import Derived.Test.YtjfhhhabcbkahaaGreatTK
namespace Go.Proofs.YtjfhhhabcbkahaaGreat
set_option linter.unusedVariables false
set_option linter.unusedSimpArgs false

/-- Nodes from number s on. -/
def absN : Nat → List Nd → List Nd
  | _, [] => []
  | s, n :: r => ⟨n.kind, n.ty, n.text, n.num, n.place, n.kids.map (s + ·), 0⟩ :: absN (s + 1) r
theorem absN_len : ∀ (s : Nat) (x : List Nd), (absN s x).length = x.length
  | _, [] => rfl
  | s, n :: r => by rw [absN, List.length_cons, List.length_cons, absN_len]
theorem absN_app : ∀ (s : Nat) (x y : List Nd), absN s (x ++ y) = absN s x ++ absN (s + x.length) y
  | s, [], y => rfl
  | s, n :: r, y => by
    rw [List.cons_append, absN, absN, absN_app (s + 1) r y, List.cons_append, List.length_cons, show s + 1 + r.length = s + (r.length + 1) by omega]
theorem absN_up : ∀ (s : Nat) (x : List Nd), absN s (x.map upN) = absN s x
  | _, [] => rfl
  | s, n :: r => by rw [List.map_cons, absN, absN, absN_up]; rfl
theorem offs_get : ∀ (l : List (List Nd)) (k m : Nat), m < l.length → (offs k l)[m]? = some (k + (l.take m).flatten.length)
  | x :: l, k, 0, _ => by simp [offs]
  | x :: l, k, m + 1, h => by
    rw [offs, List.getElem?_cons_succ, offs_get l (k + x.length) m (by simpa using h)]
    simp
    omega
theorem offs_len : ∀ (l : List (List Nd)) (k : Nat), (offs k l).length = l.length
  | [], _ => rfl
  | x :: l, k => by rw [offs, List.length_cons, List.length_cons, offs_len]
/-- The numbers of the first m kids of node s. -/
def rootK (s : Nat) (l : List (List Nd)) (m : Nat) : List Nat := ((offs 1 l).take m).map (s + ·)
theorem rootK_zero (s : Nat) (l : List (List Nd)) : rootK s l 0 = [] := by simp [rootK]
theorem rootK_succ (s : Nat) (l : List (List Nd)) (m : Nat) (h : m < l.length) : rootK s l (m + 1) = rootK s l m ++ [s + 1 + (l.take m).flatten.length] := by
  unfold rootK
  have h2 : m < (offs 1 l).length := by rw [offs_len]; exact h
  have h3 := offs_get l 1 m h
  rw [List.getElem?_eq_getElem h2] at h3
  rw [List.take_succ_eq_append_getElem h2, List.map_append, Option.some.inj h3]
  simp
  omega
theorem rootK_all (s : Nat) (l : List (List Nd)) : rootK s l l.length = (offs 1 l).map (s + ·) := by
  unfold rootK
  rw [List.take_of_length_le (by rw [offs_len]; omega)]
theorem absN_mk (s : Nat) (kind : Int) (ty text : Byts8) (num place : Int) (l : List (List Nd)) : absN s (mkN kind ty text num place l) = ⟨kind, ty, text, num, place, rootK s l l.length, 0⟩ :: absN (s + 1) l.flatten := by
  unfold mkN
  rw [absN, absN_up, rootK_all]
/-- Where the first node stands that lies too deep, the first one lying at d. -/
def badP (d : Nat) (x : List Nd) : Option Int := (x.find? (fun n => decide (32 < n.deep + d))).map (·.place)
theorem badP_up (d : Nat) : ∀ x : List Nd, badP d (x.map upN) = badP (d + 1) x
  | [] => rfl
  | n :: r => by
    have ih := badP_up d r
    unfold badP at ih ⊢
    rw [List.map_cons, List.find?_cons, List.find?_cons]
    have e : decide (32 < (upN n).deep + d) = decide (32 < n.deep + (d + 1)) := by
      have : (upN n).deep + d = n.deep + (d + 1) := by show n.deep + 1 + d = _; omega
      rw [this]
    rw [e]
    cases decide (32 < n.deep + (d + 1)) with
    | true => rfl
    | false => exact ih
theorem badP_mk (d : Nat) (kind : Int) (ty text : Byts8) (num place : Int) (l : List (List Nd)) : badP d (mkN kind ty text num place l) = if 32 < d then some place else badP (d + 1) l.flatten := by
  rw [← badP_up d l.flatten]
  unfold badP mkN
  rw [List.find?_cons]
  by_cases h : 32 < d
  · rw [if_pos h]
    simp [h]
  · rw [if_neg h]
    simp [h]
theorem badP_app (d : Nat) (x y : List Nd) : badP d (x ++ y) = match badP d x with | some p => some p | none => badP d y := by
  unfold badP
  rw [List.find?_append]
  cases x.find? (fun n => decide (32 < n.deep + d)) with
  | some n => rfl
  | none => rfl
theorem badP_take (d : Nat) (l : List (List Nd)) (m : Nat) (h : m < l.length) : badP d (l.take (m + 1)).flatten = match badP d (l.take m).flatten with | some p => some p | none => badP d l[m] := by
  rw [List.take_succ_eq_append_getElem h, List.flatten_append, badP_app]
  simp
theorem badP_some (d : Nat) (l : List (List Nd)) (m : Nat) {p : Int} (h : badP d (l.take m).flatten = some p) : badP d l.flatten = some p := by
  rw [← List.take_append_drop m l, List.flatten_append, badP_app, h]
theorem tree_bad (L : List Tok) {j : Nat} {x : List Nd} (h : shadP L = (j, some x)) : treeP L = match badP 0 x with | some p => ([], 3, p) | none => (x, 0, 0) := by
  unfold treeP
  rw [h]
  dsimp only
  have e : badP 0 x = (tooDeep x).map (·.place) := rfl
  rw [e]
  cases tooDeep x with
  | some n => rfl
  | none => rfl
end Go.Proofs.YtjfhhhabcbkahaaGreat
