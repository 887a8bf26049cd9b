/-
  Texts and their tokens, plain: what a text begins with, what is wrong with a token, all tokens of a text.
-/
import Derived.Test.YtdcamcpffiilbaaDoorFxD
import Derived.Lib.Index
import Derived.Lib.Strings
import Derived.Lib.Bytealg
namespace Go.Proofs.YtdcamcpffiilbaaDoor

abbrev Byts8 := List UInt8
def isBl (b : UInt8) : Bool := (decide (9 ≤ b.toNat) && decide (b.toNat ≤ 13)) || decide (b.toNat = 32)
def isLn (b : UInt8) : Bool := !decide (b.toNat = 10)
def isLt (b : UInt8) : Bool := ((decide (97 ≤ b.toNat) && decide (b.toNat ≤ 122)) || (decide (65 ≤ b.toNat) && decide (b.toNat ≤ 90))) || decide (b.toNat = 95)
def isDg (b : UInt8) : Bool := decide (48 ≤ b.toNat) && decide (b.toNat ≤ 57)
def isWd (b : UInt8) : Bool := isLt b || isDg b
def isPt (b : UInt8) : Bool := decide (b.toNat = 46)

/-- How many bytes of a sort a text begins with. -/
def runN (p : UInt8 → Bool) : Byts8 → Nat
  | [] => 0
  | b :: l => if p b = true then runN p l + 1 else 0
/-- Whether a text begins with a byte of a sort. -/
def begN (p : UInt8 → Bool) : Byts8 → Bool
  | [] => false
  | b :: _ => p b
def pre2 (x y : UInt8) (l : Byts8) : Bool := Lib.hasPrefix l [x, y]

def numP (l : Byts8) : Int × Nat :=
  if begN isPt (l.drop (runN isDg l)) = true then (3, runN isDg l + 1 + runN isDg (l.drop (runN isDg l + 1))) else (2, runN isDg l)
def twos : List Byts8 := [[61, 61], [33, 61], [60, 61], [62, 61], [38, 38], [124, 124], [43, 43], [45, 45], [43, 61], [45, 61], [42, 61], [47, 61]]
def ones : Byts8 := [40, 41, 91, 93, 123, 125, 46, 44, 59, 58, 63, 43, 45, 42, 47, 60, 62, 61, 33, 35]
def isTwo (l : Byts8) : Bool := twos.contains (l.take 2)
def isOne (b : UInt8) : Bool := ones.contains b
def signP (l : Byts8) : Int × Nat := if isTwo l = true then (4, 2) else if begN isOne l = true then (4, 1) else (-2, 1)
def comP (l : Byts8) : Int × Nat := if Lib.index (l.drop 2) [42, 47] < 0 then (-2, l.length) else (-1, (Lib.index (l.drop 2) [42, 47]).toNat + 4)
/-- What a text begins with, and how many bytes it has. -/
def pieceP (l : Byts8) : Int × Nat :=
  if begN isBl l = true then (-1, runN isBl l)
  else if pre2 47 47 l = true then (-1, runN isLn l)
  else if pre2 47 42 l = true then comP l
  else if begN isLt l = true then (1, runN isWd l)
  else if (begN isDg l || (begN isPt l && begN isDg (l.drop 1))) = true then numP l
  else signP l

/-- A number that something runs into, an int with a nought ahead. -/
def spoilt (k : Int) (t b : Byts8) : Bool :=
  if k = 2 then begN isLt b || (decide (1 < t.length) && begN (fun c => decide (c.toNat = 48)) t)
  else if k = 3 then begN isLt b || begN isPt b else false
def valF (n : Int) (c : UInt8) : Int := min (10 * n + ((c.toNat : Int) - 48) % 256) 32768
def valP (t : Byts8) : Int := t.foldl valF 0
def measP (k : Int) (t : Byts8) : Int × Int :=
  if k = 1 then (if 32 < t.length then (0, 3) else (0, 0))
  else if k = 2 then (if valP t ≤ 32767 then (rawI (65536 * valP t), 0) else (0, 120))
  else if k = 3 then parseI t
  else (0, 0)
/-- A token's number, and what is wrong with it. -/
def tellP (k : Int) (t b : Byts8) (n : Nat) : Int × Int :=
  if (decide (k = -2) || spoilt k t b) = true then (0, 200) else if n = 2048 then (0, 3) else measP k t

/-- A token. -/
structure Tok where
  kind : Int
  text : Byts8
  num : Int
  place : Int
  line : Int
def cntL (l : Byts8) : Nat := Lib.countByte l 10

theorem runN_le (p : UInt8 → Bool) : ∀ l, runN p l ≤ l.length
  | [] => Nat.le_refl _
  | b :: l => by
    have ih := runN_le p l
    unfold runN
    split
    · simp; omega
    · simp
theorem runN_pos {p : UInt8 → Bool} {l : Byts8} (h : begN p l = true) : 1 ≤ runN p l := by
  cases l with
  | nil => simp [begN] at h
  | cons b l => unfold runN; simp only [begN] at h; rw [if_pos h]; omega
theorem begN_mono {p q : UInt8 → Bool} (hpq : ∀ b, p b = true → q b = true) {l : Byts8} (h : begN p l = true) : begN q l = true := by
  cases l with
  | nil => simp [begN] at h
  | cons b l => exact hpq b h
theorem pre2_split {x y : UInt8} {l : Byts8} (h : pre2 x y l = true) : ∃ r, l = x :: y :: r := by
  unfold pre2 Lib.hasPrefix at h
  rcases l with _ | ⟨a, _ | ⟨b, r⟩⟩
  · simp at h
  · simp at h
  · simp at h
    exact ⟨r, by rw [← h.1, ← h.2]⟩
theorem pre2_cons (x y a b : UInt8) (r : Byts8) : pre2 x y (a :: b :: r) = ((x == a) && (y == b)) := by
  simp [pre2, Lib.hasPrefix, List.isPrefixOf]
theorem pre2_one (x y a : UInt8) : pre2 x y [a] = false := by
  simp [pre2, Lib.hasPrefix, List.isPrefixOf]
theorem runN_bound (p : UInt8 → Bool) (l : Byts8) (d : Nat) : runN p (l.drop d) ≤ l.length - d := by
  have := runN_le p (l.drop d)
  rw [List.length_drop] at this
  exact this
theorem begN_len {p : UInt8 → Bool} {l : Byts8} (h : begN p l = true) : 1 ≤ l.length := by
  cases l with
  | nil => simp [begN] at h
  | cons b l => simp
theorem begN_drop {p : UInt8 → Bool} {l : Byts8} {d : Nat} (h : begN p (l.drop d) = true) : d + 1 ≤ l.length := by
  have := begN_len h
  rw [List.length_drop] at this
  omega
theorem index_room (l : Byts8) (h : ¬ Lib.index l [42, 47] < 0) : (Lib.index l [42, 47]).toNat + 2 ≤ l.length := by
  induction l with
  | nil => simp [Lib.index] at h
  | cons b l ih =>
    rw [Lib.index] at h ⊢
    by_cases h1 : ([42, 47] : Byts8).isPrefixOf (b :: l) = true
    · rw [if_pos h1]
      cases l with
      | nil => simp at h1
      | cons c l => simp
    · rw [if_neg h1] at h ⊢
      by_cases h2 : (Lib.index l [42, 47] == -1) = true
      · rw [if_pos h2] at h; omega
      · rw [if_neg h2] at h ⊢
        have hg := Lib.index_ge l [42, 47]
        have h2' : Lib.index l [42, 47] ≠ -1 := by simpa using h2
        have := ih (by omega)
        simp only [List.length_cons]
        omega
theorem numP_room (l : Byts8) : (numP l).2 ≤ l.length := by
  unfold numP
  have h1 := runN_le isDg l
  split
  · rename_i h
    have h2 := begN_drop h
    have h3 := runN_bound isDg l (runN isDg l + 1)
    simp only
    omega
  · exact h1
theorem numP_pos (l : Byts8) (h : (begN isDg l || (begN isPt l && begN isDg (l.drop 1))) = true) : 1 ≤ (numP l).2 := by
  unfold numP
  split
  · simp only; omega
  · rename_i hn
    rcases (Bool.or_eq_true _ _).mp h with h1 | h1
    · exact runN_pos h1
    · exfalso
      obtain ⟨h2, h3⟩ := (Bool.and_eq_true _ _).mp h1
      have : runN isDg l = 0 := by
        cases l with
        | nil => rfl
        | cons b l =>
          simp only [begN, isPt, decide_eq_true_eq] at h2
          unfold runN
          rw [if_neg]
          unfold isDg
          simp
          omega
      rw [this] at hn
      exact hn h2
theorem piece_room (l : Byts8) (h : l ≠ []) : 1 ≤ (pieceP l).2 ∧ (pieceP l).2 ≤ l.length := by
  have hl : 1 ≤ l.length := by cases l with | nil => exact absurd rfl h | cons => simp
  unfold pieceP
  split
  · rename_i h1; exact ⟨runN_pos h1, runN_le _ _⟩
  · split
    · rename_i _ h1
      refine ⟨?_, runN_le _ _⟩
      obtain ⟨r, rfl⟩ := pre2_split h1
      exact runN_pos rfl
    · split
      · rename_i h1
        unfold comP
        split
        · exact ⟨hl, Nat.le_refl _⟩
        · rename_i h2
          have := index_room _ h2
          obtain ⟨r, rfl⟩ := pre2_split h1
          simp only [List.drop_succ_cons, List.drop_zero, List.length_cons] at this ⊢
          omega
      · split
        · rename_i h1
          exact ⟨runN_pos (begN_mono (fun b hb => by unfold isWd; rw [hb]; rfl) h1), runN_le _ _⟩
        · split
          · rename_i h1
            exact ⟨numP_pos l h1, numP_room l⟩
          · unfold signP
            split
            · rename_i h1
              refine ⟨by decide, ?_⟩
              simp only
              unfold isTwo at h1
              have h2 : l.take 2 ∈ twos := by simpa using h1
              have h3 : ∀ x ∈ twos, x.length = 2 := by decide
              have := h3 _ h2
              rw [List.length_take] at this
              omega
            · split <;> exact ⟨Nat.le_refl _, hl⟩

/-- All tokens of a text from a place on, n tokens standing ahead; or what is wrong first, and where; by fuel. -/
def lexR : Nat → Byts8 → Int → Int → Nat → List Tok × Int × Int
  | 0, _, _, _, _ => ([], 0, 0)
  | f + 1, l, a, ln, n =>
    if l = [] then ([], 0, 0)
    else if (pieceP l).1 = -1 then lexR f (l.drop (pieceP l).2) (a + (pieceP l).2) (ln + cntL (l.take (pieceP l).2)) n
    else if (tellP (pieceP l).1 (l.take (pieceP l).2) (l.drop (pieceP l).2) n).2 ≠ 0 then ([], (tellP (pieceP l).1 (l.take (pieceP l).2) (l.drop (pieceP l).2) n).2, a)
    else if (lexR f (l.drop (pieceP l).2) (a + (pieceP l).2) (ln + cntL (l.take (pieceP l).2)) (n + 1)).2.1 ≠ 0 then lexR f (l.drop (pieceP l).2) (a + (pieceP l).2) (ln + cntL (l.take (pieceP l).2)) (n + 1)
    else (⟨(pieceP l).1, l.take (pieceP l).2, (tellP (pieceP l).1 (l.take (pieceP l).2) (l.drop (pieceP l).2) n).1, a, ln⟩ :: (lexR f (l.drop (pieceP l).2) (a + (pieceP l).2) (ln + cntL (l.take (pieceP l).2)) (n + 1)).1, 0, 0)
theorem lexR_same (f : Nat) : ∀ (g : Nat) (l : Byts8) (a ln : Int) (n : Nat), l.length ≤ f → l.length ≤ g → lexR f l a ln n = lexR g l a ln n := by
  induction f with
  | zero =>
    intro g l a ln n h _
    obtain rfl : l = [] := List.length_eq_zero_iff.1 (by omega)
    cases g with
    | zero => rfl
    | succ g => simp [lexR]
  | succ f ih =>
    intro g l a ln n h h2
    by_cases hl : l = []
    · subst hl
      cases g with
      | zero => simp [lexR]
      | succ g => simp [lexR]
    have hr := piece_room l hl
    cases g with
    | zero => omega
    | succ g =>
      have hd : (l.drop (pieceP l).2).length ≤ f := by rw [List.length_drop]; omega
      have hd2 : (l.drop (pieceP l).2).length ≤ g := by rw [List.length_drop]; omega
      rw [lexR, lexR, ih g _ _ _ _ hd hd2, ih g _ _ _ _ hd hd2]
/-- All tokens of a text from a place on, n tokens standing ahead; or what is wrong first, and where. -/
def lexA (l : Byts8) (a ln : Int) (n : Nat) : List Tok × Int × Int := lexR (l.length + 1) l a ln n
theorem lexA_unf (l : Byts8) (a ln : Int) (n : Nat) : lexA l a ln n =
    if l = [] then ([], 0, 0)
    else if (pieceP l).1 = -1 then lexA (l.drop (pieceP l).2) (a + (pieceP l).2) (ln + cntL (l.take (pieceP l).2)) n
    else if (tellP (pieceP l).1 (l.take (pieceP l).2) (l.drop (pieceP l).2) n).2 ≠ 0 then ([], (tellP (pieceP l).1 (l.take (pieceP l).2) (l.drop (pieceP l).2) n).2, a)
    else if (lexA (l.drop (pieceP l).2) (a + (pieceP l).2) (ln + cntL (l.take (pieceP l).2)) (n + 1)).2.1 ≠ 0 then lexA (l.drop (pieceP l).2) (a + (pieceP l).2) (ln + cntL (l.take (pieceP l).2)) (n + 1)
    else (⟨(pieceP l).1, l.take (pieceP l).2, (tellP (pieceP l).1 (l.take (pieceP l).2) (l.drop (pieceP l).2) n).1, a, ln⟩ :: (lexA (l.drop (pieceP l).2) (a + (pieceP l).2) (ln + cntL (l.take (pieceP l).2)) (n + 1)).1, 0, 0) := by
  by_cases hl : l = []
  · subst hl
    rfl
  have hr := piece_room l hl
  have hd : (l.drop (pieceP l).2).length ≤ l.length := by rw [List.length_drop]; omega
  have e : ∀ (a2 ln2 : Int) (n2 : Nat), lexR l.length (l.drop (pieceP l).2) a2 ln2 n2 = lexA (l.drop (pieceP l).2) a2 ln2 n2 := fun a2 ln2 n2 => lexR_same l.length _ _ a2 ln2 n2 hd (Nat.le_succ _)
  show lexR (l.length + 1) l a ln n = _
  rw [lexR, e, e]
/-- All tokens of a text. -/
def lexP (l : Byts8) : List Tok × Int × Int := if 8192 < l.length then ([], 3, 0) else lexA l 0 0 0

theorem lexA_nil (a ln : Int) (n : Nat) : lexA [] a ln n = ([], 0, 0) := rfl
theorem lexA_gap {l : Byts8} {z : Nat} (h : l ≠ []) (hp : pieceP l = (-1, z)) (a ln : Int) (n : Nat) : lexA l a ln n = lexA (l.drop z) (a + z) (ln + cntL (l.take z)) n := by
  rw [lexA_unf, if_neg h, hp]
  simp
theorem lexA_bad {l : Byts8} {k : Int} {z : Nat} (h : l ≠ []) (hp : pieceP l = (k, z)) (hk : k ≠ -1) (a ln : Int) (n : Nat) (ht : (tellP k (l.take z) (l.drop z) n).2 ≠ 0) : lexA l a ln n = ([], (tellP k (l.take z) (l.drop z) n).2, a) := by
  rw [lexA_unf, if_neg h, hp]
  simp only
  rw [if_neg hk, if_pos ht]
theorem lexA_tok {l : Byts8} {k : Int} {z : Nat} (h : l ≠ []) (hp : pieceP l = (k, z)) (hk : k ≠ -1) (a ln : Int) (n : Nat) (ht : (tellP k (l.take z) (l.drop z) n).2 = 0) :
    lexA l a ln n = if (lexA (l.drop z) (a + z) (ln + cntL (l.take z)) (n + 1)).2.1 ≠ 0 then lexA (l.drop z) (a + z) (ln + cntL (l.take z)) (n + 1)
      else (⟨k, l.take z, (tellP k (l.take z) (l.drop z) n).1, a, ln⟩ :: (lexA (l.drop z) (a + z) (ln + cntL (l.take z)) (n + 1)).1, 0, 0) := by
  rw [lexA_unf, if_neg h, hp]
  simp only
  rw [if_neg hk, if_neg (by rw [ht]; simp)]
end Go.Proofs.YtdcamcpffiilbaaDoor
