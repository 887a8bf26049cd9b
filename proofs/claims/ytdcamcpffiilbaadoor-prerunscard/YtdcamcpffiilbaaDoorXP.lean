/-
  Texts and their tokens, plain: blanks and comments ahead of a token; a token does not ask what stands far behind it.
-/
import Derived.Test.YtdcamcpffiilbaaDoorXF
namespace Go.Proofs.YtdcamcpffiilbaaDoor
set_option linter.unusedVariables false

theorem runN_take (p : UInt8 → Bool) : ∀ (l : Byts8) (m : Nat), runN p (l.take m) = min (runN p l) m
  | [], m => by simp [runN]
  | b :: l, 0 => by simp [runN]
  | b :: l, m + 1 => by
    rw [List.take_succ_cons, runN_cons, runN_cons, runN_take p l m]
    split <;> omega
theorem begN_take (p : UInt8 → Bool) (l : Byts8) (m : Nat) (h : 1 ≤ m) : begN p (l.take m) = begN p l := by
  cases m with
  | zero => omega
  | succ m => cases l <;> rfl
theorem pre2_take (x y : UInt8) (l : Byts8) (m : Nat) (h : 2 ≤ m) : pre2 x y (l.take m) = pre2 x y l := by
  obtain ⟨m, rfl⟩ : ∃ k, m = k + 2 := ⟨m - 2, by omega⟩
  rcases l with _ | ⟨a, _ | ⟨b, r⟩⟩
  · rfl
  · rfl
  · simp only [List.take_succ_cons, pre2_cons]
theorem index_take : ∀ (l : Byts8) (j : Nat), 0 ≤ Lib.index l [42, 47] → (Lib.index l [42, 47]).toNat + 2 ≤ j → Lib.index (l.take j) [42, 47] = Lib.index l [42, 47]
  | [], j, h, _ => by simp
  | b :: l, j, h, hj => by
    obtain ⟨j, rfl⟩ : ∃ k, j = k + 2 := ⟨j - 2, by omega⟩
    have hpre : ([42, 47] : Byts8).isPrefixOf ((b :: l).take (j + 2)) = ([42, 47] : Byts8).isPrefixOf (b :: l) := by
      cases l with
      | nil => rfl
      | cons c l => simp [List.isPrefixOf]
    have hg := Lib.index_ge l [42, 47]
    rw [Lib.index] at h hj
    rw [show (b :: l).take (j + 2) = b :: l.take (j + 1) from rfl] at hpre ⊢
    rw [Lib.index, Lib.index, hpre]
    by_cases h1 : ([42, 47] : Byts8).isPrefixOf (b :: l) = true
    · rw [if_pos h1, if_pos h1]
    · rw [if_neg h1] at h hj
      rw [if_neg h1, if_neg h1]
      by_cases h2 : (Lib.index l [42, 47] == -1) = true
      · rw [if_pos h2] at h
        omega
      · rw [if_neg h2] at h hj
        have h2' : Lib.index l [42, 47] ≠ -1 := by simpa using h2
        rw [index_take l (j + 1) (by omega) (by omega), if_neg h2]
theorem numP_kind (l : Byts8) : (numP l).1 = 2 ∨ (numP l).1 = 3 := by
  unfold numP
  split
  · exact .inr rfl
  · exact .inl rfl
theorem signP_kind (l : Byts8) : (signP l).1 = 4 ∨ (signP l).1 = -2 := by
  unfold signP
  split
  · exact .inl rfl
  · split
    · exact .inl rfl
    · exact .inr rfl
/-- Blanks and comments, cut behind their end, are told alike. -/
theorem gap_cut {l : Byts8} {z m : Nat} (hl : l ≠ []) (hp : pieceP l = (-1, z)) (hm : z ≤ m) : pieceP (l.take m) = (-1, z) := by
  have hr := piece_room l hl
  rw [hp] at hr
  simp only at hr
  unfold pieceP at hp ⊢
  rw [begN_take isBl l m (by omega)]
  by_cases c1 : begN isBl l = true
  · rw [if_pos c1] at hp ⊢
    rw [runN_take]
    cases hp
    rw [Nat.min_eq_left hm]
  rw [if_neg c1] at hp ⊢
  by_cases c2 : pre2 47 47 l = true
  · rw [if_pos c2] at hp
    obtain ⟨r, rfl⟩ := pre2_split c2
    have h2 : 2 ≤ z := by
      cases hp
      rw [runN_cons, if_pos (by rfl), runN_cons, if_pos (by rfl)]
      omega
    rw [pre2_take 47 47 _ m (by omega), if_pos c2, runN_take]
    cases hp
    rw [Nat.min_eq_left hm]
  rw [if_neg c2] at hp
  by_cases c3 : pre2 47 42 l = true
  · rw [if_pos c3] at hp
    unfold comP at hp
    by_cases hi : Lib.index (l.drop 2) [42, 47] < 0
    · rw [if_pos hi] at hp
      cases hp
    · rw [if_neg hi] at hp
      have hz : z = (Lib.index (l.drop 2) [42, 47]).toNat + 4 := by cases hp; rfl
      rw [pre2_take 47 47 _ m (by omega), if_neg c2, pre2_take 47 42 _ m (by omega), if_pos c3]
      unfold comP
      rw [List.drop_take, index_take _ _ (by omega) (by omega), if_neg hi, hz]
  rw [if_neg c3] at hp
  exfalso
  by_cases c4 : begN isLt l = true
  · rw [if_pos c4] at hp
    cases hp
  rw [if_neg c4] at hp
  by_cases c5 : (begN isDg l || (begN isPt l && begN isDg (l.drop 1))) = true
  · rw [if_pos c5] at hp
    have := numP_kind l
    rw [hp] at this
    simp at this
  · rw [if_neg c5] at hp
    have := signP_kind l
    rw [hp] at this
    simp at this

/-- How many bytes of blanks and comments a text begins with, by fuel. -/
def skipR : Nat → Byts8 → Nat
  | 0, _ => 0
  | f + 1, l => if l = [] then 0 else if (pieceP l).1 = -1 then (pieceP l).2 + skipR f (l.drop (pieceP l).2) else 0
theorem skipR_same (f : Nat) : ∀ (g : Nat) (l : Byts8), l.length ≤ f → l.length ≤ g → skipR f l = skipR g l := by
  induction f with
  | zero =>
    intro g l h _
    obtain rfl : l = [] := List.length_eq_zero_iff.1 (by omega)
    cases g with
    | zero => rfl
    | succ g => simp [skipR]
  | succ f ih =>
    intro g l h h2
    by_cases hl : l = []
    · subst hl
      cases g with
      | zero => simp [skipR]
      | succ g => simp [skipR]
    have hr := piece_room l hl
    cases g with
    | zero => omega
    | succ g =>
      have hd : (l.drop (pieceP l).2).length ≤ f := by rw [List.length_drop]; omega
      have hd2 : (l.drop (pieceP l).2).length ≤ g := by rw [List.length_drop]; omega
      rw [skipR, skipR, ih g _ hd hd2]
/-- How many bytes of blanks and comments a text begins with. -/
def skipN (l : Byts8) : Nat := skipR (l.length + 1) l
theorem skip_unf (l : Byts8) : skipN l = if l = [] then 0 else if (pieceP l).1 = -1 then (pieceP l).2 + skipN (l.drop (pieceP l).2) else 0 := by
  by_cases hl : l = []
  · subst hl
    rfl
  have hr := piece_room l hl
  have hd : (l.drop (pieceP l).2).length ≤ l.length := by rw [List.length_drop]; omega
  have e : skipR l.length (l.drop (pieceP l).2) = skipN (l.drop (pieceP l).2) := skipR_same l.length _ _ hd (Nat.le_succ _)
  show skipR (l.length + 1) l = _
  rw [skipR, e]
theorem skip_nil : skipN [] = 0 := rfl
theorem skip_gap {l : Byts8} {z : Nat} (hl : l ≠ []) (hp : pieceP l = (-1, z)) : skipN l = z + skipN (l.drop z) := by
  rw [skip_unf, if_neg hl, hp]
  simp
theorem skip_tok {l : Byts8} {k : Int} {z : Nat} (hl : l ≠ []) (hp : pieceP l = (k, z)) (hk : k ≠ -1) : skipN l = 0 := by
  rw [skip_unf, if_neg hl, hp]
  simp [hk]
/-- What holds of every text if it holds of none, of a token's begin, and of what stands behind a gap. -/
theorem skip_ind {M : Byts8 → Prop} (h0 : M []) (ht : ∀ l k z, l ≠ [] → pieceP l = (k, z) → k ≠ -1 → M l) (hg : ∀ l z, l ≠ [] → pieceP l = (-1, z) → M (l.drop z) → M l) (l : Byts8) : M l := by
  induction hn : l.length using Nat.strongRecOn generalizing l with
  | _ m ih =>
    by_cases hl : l = []
    · subst hl; exact h0
    obtain ⟨k, z, hp⟩ : ∃ k z, pieceP l = (k, z) := ⟨_, _, rfl⟩
    have hr := piece_room l hl
    rw [hp] at hr
    simp only at hr
    by_cases hk : k = -1
    · subst hk
      exact hg l z hl hp (ih _ (by rw [List.length_drop]; omega) _ rfl)
    · exact ht l k z hl hp hk
theorem skip_le (l : Byts8) : skipN l ≤ l.length := by
  refine skip_ind (M := fun l => skipN l ≤ l.length) (by rw [skip_nil]; simp) (fun l k z hl hp hk => by rw [skip_tok hl hp hk]; omega) (fun l z hl hp ih => ?_) l
  have hr := piece_room l hl
  rw [hp] at hr
  rw [skip_gap hl hp]
  rw [List.length_drop] at ih
  simp only at hr
  omega
theorem skip_stop (l : Byts8) (h : l.drop (skipN l) ≠ []) : (pieceP (l.drop (skipN l))).1 ≠ -1 := by
  revert h
  refine skip_ind (M := fun l => l.drop (skipN l) ≠ [] → (pieceP (l.drop (skipN l))).1 ≠ -1) (by simp) (fun l k z hl hp hk _ => ?_) (fun l z hl hp ih h => ?_) l
  · rw [skip_tok hl hp hk, List.drop_zero, hp]
    exact hk
  · rw [skip_gap hl hp, ← List.drop_drop] at h ⊢
    exact ih h
theorem cntL_add (x y : Byts8) : cntL (x ++ y) = cntL x + cntL y := by
  unfold cntL Lib.countByte
  exact List.count_append
theorem take_split (l : Byts8) (i j : Nat) : l.take (i + j) = l.take i ++ (l.drop i).take j := List.take_add
theorem lexA_skip (l : Byts8) : ∀ (a ln : Int) (n : Nat), lexA l a ln n = lexA (l.drop (skipN l)) (a + skipN l) (ln + cntL (l.take (skipN l))) n := by
  refine skip_ind (M := fun l => ∀ (a ln : Int) (n : Nat), lexA l a ln n = lexA (l.drop (skipN l)) (a + skipN l) (ln + cntL (l.take (skipN l))) n) ?_ (fun l k z hl hp hk a ln n => ?_) (fun l z hl hp ih a ln n => ?_) l
  · intro a ln n
    rw [skip_nil]
    simp [cntL, Lib.countByte]
  · rw [skip_tok hl hp hk]
    simp [cntL, Lib.countByte]
  · rw [lexA_gap hl hp, ih, skip_gap hl hp, List.drop_drop, take_split, cntL_add]
    push_cast
    rw [Int.add_assoc, Int.add_assoc]
theorem skip_take (l : Byts8) : ∀ (a ln : Int) (n : Nat), lexA (l.take (skipN l)) a ln n = ([], 0, 0) := by
  refine skip_ind (M := fun l => ∀ (a ln : Int) (n : Nat), lexA (l.take (skipN l)) a ln n = ([], 0, 0)) ?_ (fun l k z hl hp hk a ln n => ?_) (fun l z hl hp ih a ln n => ?_) l
  · intro a ln n
    rw [List.take_nil, lexA_nil]
  · rw [skip_tok hl hp hk, List.take_zero, lexA_nil]
  · have hr := piece_room l hl
    rw [hp] at hr
    simp only at hr
    have hne : l.take (z + skipN (l.drop z)) ≠ [] := by
      intro e
      have := congrArg List.length e
      rw [List.length_take, List.length_nil] at this
      omega
    rw [skip_gap hl hp, lexA_gap hne (gap_cut hl hp (by omega)), List.drop_take, Nat.add_sub_cancel_left]
    exact ih _ _ _
end Go.Proofs.YtdcamcpffiilbaaDoor
