/- Several texts in one. -/
import Derived.Test.YtglfhmlcmffoaaaGreatVMDJ
import Derived.Test.YtglfhmlcmffoaaaGreatW1J
import Derived.Maps.AppendAt
import Derived.Laws.CopyOwn
import Derived.Deep.QuietTactic
import Derived.BigQuiet
/-
  Plain facts on pictures: levels, how many there are, places of pieces, means of pixels. Nothing here speaks of the program.
-/
namespace Go.Proofs.YtglfhmlcmffoaaaGreat
open Go.RowKit

/-- A level: its sides, its bytes. -/
abbrev Lev := Int × Int × List Int
/-- An image. -/
structure Img where
  f : Int
  L : List Lev
  ws : Int
  wt : Int
  mn : Int
  mg : Int
def zimg : Img := ⟨0, [], 0, 0, 0, 0⟩
def noLev : Lev := (0, 0, [])

def sideB (n : Int) : Bool := decide (1 ≤ n ∧ n ≤ 64)
theorem sideB_iff {n : Int} : sideB n = true ↔ 1 ≤ n ∧ n ≤ 64 := by simp [sideB]
theorem sideB_no {n : Int} : sideB n = false ↔ ¬ (1 ≤ n ∧ n ≤ 64) := by simp [sideB]
/-- May a parameter have a value? -/
def valB (which value : Int) : Bool :=
  if which = 1 ∨ which = 2 then decide (1 ≤ value ∧ value ≤ 3) else if which = 3 then decide (1 ≤ value ∧ value ≤ 4) else if which = 4 then decide (value = 1 ∨ value = 2) else false
/-- A level that is not there. -/
def noneB (l : Lev) : Bool := decide (l.1 = 0 ∧ l.2.1 = 0 ∧ l.2.2.length = 0)
/-- A level that is there, with all its bytes. -/
def goodB (s : Int) (l : Lev) : Bool := decide ((1 ≤ l.1 ∧ l.1 ≤ 64) ∧ (1 ≤ l.2.1 ∧ l.2.1 ≤ 64) ∧ (l.2.2.length : Int) = l.1 * l.2.1 * s)
def lvB (s : Int) (l : Lev) : Bool := noneB l || goodB s l
theorem noneB_iff {l : Lev} : noneB l = true ↔ l.1 = 0 ∧ l.2.1 = 0 ∧ l.2.2.length = 0 := by simp [noneB]
theorem goodB_iff {s : Int} {l : Lev} : goodB s l = true ↔ (1 ≤ l.1 ∧ l.1 ≤ 64) ∧ (1 ≤ l.2.1 ∧ l.2.1 ≤ 64) ∧ (l.2.2.length : Int) = l.1 * l.2.1 * s := by simp [goodB]
/-- Is level i there? -/
def hasB (L : List Lev) (i : Int) : Bool := decide (0 ≤ i ∧ i < L.length) && decide (0 < (L.getD i.toNat noLev).1)
/-- May an image be? s: the bytes of a pixel of its format. -/
def okB (s : Int) (I : Img) : Bool :=
  decide (I.L.length ≤ 7) && decide (I.L.length = 0 → I.f = 0) && I.L.all (lvB s) && decide (0 < I.L.length → s ≠ 0 ∧ hasB I.L ((I.L.length : Int) - 1) = true) &&
  valB 1 I.ws && valB 2 I.wt && valB 3 I.mn && valB 4 I.mg
theorem okB_iff {s : Int} {I : Img} : okB s I = true ↔ I.L.length ≤ 7 ∧ (I.L.length = 0 → I.f = 0) ∧ (∀ l ∈ I.L, lvB s l = true) ∧ (0 < I.L.length → s ≠ 0 ∧ hasB I.L ((I.L.length : Int) - 1) = true) ∧ valB 1 I.ws = true ∧ valB 2 I.wt = true ∧ valB 3 I.mn = true ∧ valB 4 I.mg = true := by
  simp only [okB, Bool.and_eq_true, decide_eq_true_eq, List.all_eq_true, and_assoc]
/-- The place of the first level that is wrong. -/
def wrongAt (s : Int) (L : List Lev) : Nat := L.findIdx fun l => !lvB s l
theorem wrongAt_le (s : Int) (L : List Lev) : wrongAt s L ≤ L.length := List.findIdx_le_length
theorem wrongAt_all (s : Int) (L : List Lev) : wrongAt s L = L.length ↔ ∀ l ∈ L, lvB s l = true := by
  unfold wrongAt
  rw [List.findIdx_eq_length]
  simp

/-! ### How many levels -/
def half (n : Int) : Int := max 1 (n / 2)
/-- How often a number up to 64 can be halved till it is 1. -/
def lg (m : Int) : Nat := if m < 2 then 0 else if m < 4 then 1 else if m < 8 then 2 else if m < 16 then 3 else if m < 32 then 4 else if m < 64 then 5 else 6
theorem lg_le (m : Int) : lg m ≤ 6 := by
  unfold lg
  repeat' split
  all_goals omega
theorem lg_one {m : Int} (h : m < 2) : lg m = 0 := by unfold lg; rw [if_pos h]
theorem lg_half {m : Int} (h : 2 ≤ m) (h2 : m ≤ 64) : lg m = lg (m / 2) + 1 := by
  unfold lg
  repeat' split
  all_goals omega
def lgs (w h : Int) : Nat := lg (max w h)
theorem lgs_one {w h : Int} (hw : w ≤ 1) (hh : h ≤ 1) : lgs w h = 0 := lg_one (by omega)
theorem lgs_half {w h : Int} (h1 : 1 < w ∨ 1 < h) (hw : 1 ≤ w ∧ w ≤ 64) (hh : 1 ≤ h ∧ h ≤ 64) : lgs w h = lgs (half w) (half h) + 1 := by
  unfold lgs half
  rw [lg_half (by omega) (by omega)]
  congr 2
  omega
theorem lgs_div {w h : Int} (h1 : 1 < w ∨ 1 < h) (hw : w ≤ 64) (hh : h ≤ 64) : lgs w h = lgs (w / 2) (h / 2) + 1 := by
  unfold lgs
  rw [lg_half (by omega) (by omega)]
  congr 2
  omega
def cntI (w h : Int) : Int := if sideB w = true ∧ sideB h = true then (lgs w h : Int) + 1 else 0
theorem half_side {n : Int} (h : 1 ≤ n ∧ n ≤ 64) : 1 ≤ half n ∧ half n ≤ 64 := by unfold half; omega
/-- The side, halved so often. -/
def halfs (n : Int) : Nat → Int
  | 0 => n
  | k + 1 => half (halfs n k)
theorem halfs_side {n : Int} (h : 1 ≤ n ∧ n ≤ 64) (k : Nat) : 1 ≤ halfs n k ∧ halfs n k ≤ 64 := by
  induction k with
  | zero => exact h
  | succ k ih => exact half_side ih
theorem halfs_pow {n : Int} (h : 1 ≤ n) (k : Nat) : halfs n k = max 1 (n / 2 ^ k) := by
  induction k with
  | zero => simp [halfs]; omega
  | succ k ih =>
    unfold halfs
    rw [ih, Int.pow_succ, ← Int.ediv_ediv_of_nonneg (Int.pow_nonneg (by omega))]
    unfold half
    generalize n / 2 ^ k = x
    omega
theorem halfs_shift (n : Int) (k : Nat) : halfs (half n) k = halfs n (k + 1) := by
  induction k with
  | zero => rfl
  | succ k ih => unfold halfs; rw [ih]
theorem lgs_halfs {w h : Int} (hw : 1 ≤ w ∧ w ≤ 64) (hh : 1 ≤ h ∧ h ≤ 64) : ∀ k, k ≤ lgs w h → lgs (halfs w k) (halfs h k) = lgs w h - k
  | 0, _ => rfl
  | k + 1, hk => by
    have ih := lgs_halfs hw hh k (by omega)
    have a := halfs_side hw k
    have b := halfs_side hh k
    by_cases h1 : 1 < halfs w k ∨ 1 < halfs h k
    · have := lgs_half h1 a b
      unfold halfs
      omega
    · have := lgs_one (w := halfs w k) (h := halfs h k) (by omega) (by omega)
      omega
theorem lgs_end {w h : Int} (hw : 1 ≤ w ∧ w ≤ 64) (hh : 1 ≤ h ∧ h ≤ 64) {k : Nat} (hk : k ≤ lgs w h) : (1 < halfs w k ∨ 1 < halfs h k) ↔ k < lgs w h := by
  have h0 := lgs_halfs hw hh k hk
  have a := halfs_side hw k
  have b := halfs_side hh k
  constructor
  · intro h1
    have := lgs_half h1 a b
    omega
  · intro h1
    by_cases h2 : 1 < halfs w k ∨ 1 < halfs h k
    · exact h2
    · have := lgs_one (w := halfs w k) (h := halfs h k) (by omega) (by omega)
      omega
/-- The sides that are powers of 2. -/
def powB (n : Int) : Bool := decide (n = 1 ∨ n = 2 ∨ n = 4 ∨ n = 8 ∨ n = 16 ∨ n = 32 ∨ n = 64)
theorem powB_iff {n : Int} : powB n = true ↔ n = 1 ∨ n = 2 ∨ n = 4 ∨ n = 8 ∨ n = 16 ∨ n = 32 ∨ n = 64 := by simp [powB]
theorem powB_half {n : Int} (h : powB n = true) : powB (half n) = true := by
  rw [powB_iff] at h ⊢
  unfold half
  omega
theorem powB_even {n : Int} (h : powB n = true) (h1 : 1 < n) : n = 2 * half n := by
  rw [powB_iff] at h
  unfold half
  omega
theorem powB_side {n : Int} (h : powB n = true) : 1 ≤ n ∧ n ≤ 64 := by
  rw [powB_iff] at h
  omega

/-! ### Pieces -/
/-- Does a piece lie in a level? -/
def inP (W H X Y w h : Int) : Bool := decide (0 ≤ X ∧ X ≤ W ∧ 0 ≤ w ∧ w ≤ W - X) && decide (0 ≤ Y ∧ Y ≤ H ∧ 0 ≤ h ∧ h ≤ H - Y)
/-- The place of the k-th pixel of a piece of width w at X, Y of a level of width W. -/
def pq (W X Y w k : Nat) : Nat := (Y + k / w) * W + (X + k % w)
/-- The bytes of a pixel. -/
def cellL (s : Nat) (xs : List Int) (q : Nat) : List Int := (xs.drop (q * s)).take s
/-- The bytes of the first n pixels of a piece. -/
def getK (s : Nat) (xs : List Int) (q : Nat → Nat) : Nat → List Int
  | 0 => []
  | n + 1 => getK s xs q n ++ cellL s xs (q n)
/-- Bytes laid at a place. -/
def layB (bs : List Int) (p : Nat) (xs : List Int) : List Int := bs.take p ++ xs ++ bs.drop (p + xs.length)
/-- The first n pixels of a piece laid. -/
def subK (s : Nat) (xs : List Int) (q : Nat → Nat) (b : List Int) : Nat → List Int
  | 0 => xs
  | n + 1 => layB (subK s xs q b n) (q n * s) (cellL s b n)
theorem layB_len {bs xs : List Int} {p : Nat} (h : p + xs.length ≤ bs.length) : (layB bs p xs).length = bs.length := by
  unfold layB
  simp
  omega
theorem cellL_len {s q : Nat} {xs : List Int} (h : (q + 1) * s ≤ xs.length) : (cellL s xs q).length = s := by
  unfold cellL
  rw [Nat.succ_mul] at h
  simp
  omega
theorem getK_len {s : Nat} {xs : List Int} {q : Nat → Nat} : ∀ n, (∀ k, k < n → (q k + 1) * s ≤ xs.length) → (getK s xs q n).length = n * s
  | 0, _ => by simp [getK]
  | n + 1, h => by
    rw [getK, List.length_append, getK_len n (fun k hk => h k (by omega)), cellL_len (h n (by omega)), Nat.succ_mul]
theorem subK_len {s : Nat} {xs : List Int} {q : Nat → Nat} {b : List Int} : ∀ n, (∀ k, k < n → (q k + 1) * s ≤ xs.length) → n * s ≤ b.length → (subK s xs q b n).length = xs.length
  | 0, _, _ => rfl
  | n + 1, h, hb => by
    have ih := subK_len (b := b) n (fun k hk => h k (by omega)) (by rw [Nat.succ_mul] at hb; omega)
    have hq := h n (by omega)
    rw [Nat.succ_mul] at hq
    rw [subK, layB_len, ih]
    rw [ih, cellL_len hb]
    exact hq
/-- A pixel that is laid is got. -/
theorem cell_lay_same {s q : Nat} {xs ys : List Int} (h : (q + 1) * s ≤ xs.length) (hy : ys.length = s) : cellL s (layB xs (q * s) ys) q = ys := by
  rw [Nat.succ_mul] at h
  unfold cellL layB
  rw [List.append_assoc, List.drop_append, List.drop_of_length_le (by simp; omega), List.length_take, Nat.min_eq_left (by omega), Nat.sub_self, List.nil_append, List.drop_zero, List.take_append, List.take_of_length_le (by omega)]
  simp [hy]
theorem cell_lay_other {s q r : Nat} {xs ys : List Int} (h : (q + 1) * s ≤ xs.length) (hy : ys.length = s) (hne : r ≠ q) : cellL s (layB xs (q * s) ys) r = cellL s xs r := by
  rw [Nat.succ_mul] at h
  unfold cellL layB
  have hl : (xs.take (q * s)).length = q * s := by simp; omega
  rcases Nat.lt_or_gt_of_ne hne with h1 | h1
  · have h2 : (r + 1) * s ≤ q * s := Nat.mul_le_mul_right _ (by omega)
    rw [Nat.succ_mul] at h2
    rw [List.append_assoc, List.drop_append_of_le_length (by omega), List.take_append_of_le_length (by simp; omega), List.drop_take, List.take_take, Nat.min_eq_left (by omega)]
  · have h2 : (q + 1) * s ≤ r * s := Nat.mul_le_mul_right _ (by omega)
    rw [Nat.succ_mul] at h2
    rw [List.drop_append, List.drop_of_length_le (by simp; omega), List.nil_append, List.length_append, hl, hy, List.drop_drop]
    congr 2
    omega
theorem lay_cell {s q : Nat} {xs : List Int} (h : (q + 1) * s ≤ xs.length) : layB xs (q * s) (cellL s xs q) = xs := by
  have hl := cellL_len h
  unfold layB
  rw [hl]
  unfold cellL
  rw [← List.drop_drop, List.append_assoc, List.take_append_drop, List.take_append_drop]
/-- Lists of so many pixels are the same if all pixels are. -/
theorem cells_ext {s : Nat} : ∀ (n : Nat) {xs ys : List Int}, xs.length = n * s → ys.length = n * s → (∀ q, q < n → cellL s xs q = cellL s ys q) → xs = ys
  | 0, xs, ys, hx, hy, _ => by
    rw [Nat.zero_mul] at hx hy
    rw [List.eq_nil_of_length_eq_zero hx, List.eq_nil_of_length_eq_zero hy]
  | n + 1, xs, ys, hx, hy, h => by
    rw [Nat.succ_mul] at hx hy
    have h0 := h 0 (by omega)
    unfold cellL at h0
    rw [Nat.zero_mul, List.drop_zero, List.drop_zero] at h0
    have ih : xs.drop s = ys.drop s := by
      refine cells_ext (s := s) n (by simp; omega) (by simp; omega) fun q hq => ?_
      have h1 := h (q + 1) (by omega)
      unfold cellL at h1 ⊢
      rw [List.drop_drop, List.drop_drop]
      rw [Nat.succ_mul] at h1
      rw [Nat.add_comm s (q * s)]
      exact h1
    rw [← List.take_append_drop s xs, ← List.take_append_drop s ys, h0, ih]
theorem cell_getK {s : Nat} {xs : List Int} {q : Nat → Nat} : ∀ n, (∀ k, k < n → (q k + 1) * s ≤ xs.length) → ∀ k, k < n → cellL s (getK s xs q n) k = cellL s xs (q k)
  | 0, _, k, hk => by omega
  | n + 1, h, k, hk => by
    have hl := getK_len (q := q) (xs := xs) n (fun k hk => h k (by omega))
    by_cases hkn : k = n
    · subst hkn
      have h2 := cellL_len (h k (by omega))
      rw [getK]
      unfold cellL at h2 ⊢
      rw [List.drop_append, List.drop_of_length_le (by omega), hl, Nat.sub_self, List.drop_zero, List.nil_append, List.take_of_length_le (by omega)]
    · rw [getK, ← cell_getK n (fun k hk => h k (by omega)) k (by omega)]
      have h3 : (k + 1) * s ≤ n * s := Nat.mul_le_mul_right _ (by omega)
      rw [Nat.succ_mul] at h3
      unfold cellL
      rw [List.drop_append_of_le_length (by omega), List.take_append_of_le_length (by simp; omega)]
/-- What was laid, pixel by pixel. -/
theorem cell_subK {s : Nat} {xs : List Int} {q : Nat → Nat} {b : List Int} : ∀ n, (∀ k, k < n → (q k + 1) * s ≤ xs.length) → n * s ≤ b.length → (∀ j k, j < n → k < n → q j = q k → j = k) →
    (∀ k, k < n → cellL s (subK s xs q b n) (q k) = cellL s b k) ∧ (∀ r, (∀ k, k < n → q k ≠ r) → cellL s (subK s xs q b n) r = cellL s xs r)
  | 0, _, _, _ => ⟨fun k hk => by omega, fun r _ => rfl⟩
  | n + 1, h, hb, hinj => by
    have hb2 : n * s ≤ b.length := by rw [Nat.succ_mul] at hb; omega
    obtain ⟨i1, i2⟩ := cell_subK (b := b) n (fun k hk => h k (by omega)) hb2 (fun j k hj hk e => hinj j k (by omega) (by omega) e)
    have hl := subK_len (b := b) n (fun k hk => h k (by omega)) hb2
    have hq := h n (by omega)
    rw [← hl] at hq
    have hy := cellL_len (xs := b) (q := n) hb
    refine ⟨fun k hk => ?_, fun r hr => ?_⟩
    · by_cases hkn : k = n
      · subst hkn
        rw [subK]
        exact cell_lay_same hq hy
      · rw [subK, cell_lay_other hq hy (fun e => hkn (hinj k n hk (by omega) e))]
        exact i1 k (by omega)
    · rw [subK, cell_lay_other hq hy (fun e => hr n (by omega) e.symm)]
      exact i2 r (fun k hk => hr k (by omega))
theorem pq_inj {W X Y w : Nat} (hw : X + w ≤ W) {n : Nat} (hn : n = 0 ∨ 0 < w) (j k : Nat) (hj : j < n) (_hk : k < n) (e : pq W X Y w j = pq W X Y w k) : j = k := by
  have hw0 : 0 < w := by omega
  unfold pq at e
  have a := Nat.mod_lt j hw0
  have b := Nat.mod_lt k hw0
  have e1 : (Y + j / w) = (Y + k / w) := by
    have h1 : ((Y + j / w) * W + (X + j % w)) / W = ((Y + k / w) * W + (X + k % w)) / W := by rw [e]
    rw [Nat.add_comm, Nat.add_mul_div_right _ _ (by omega), Nat.div_eq_of_lt (show X + j % w < W by omega), Nat.zero_add, Nat.add_comm ((Y + k / w) * W), Nat.add_mul_div_right _ _ (by omega), Nat.div_eq_of_lt (show X + k % w < W by omega), Nat.zero_add] at h1
    exact h1
  rw [e1] at e
  have e2 : j % w = k % w := by omega
  have e3 : j / w = k / w := by omega
  rw [← Nat.div_add_mod j w, ← Nat.div_add_mod k w, e2, e3]
theorem pq_lt {W H X Y w h k : Nat} (hw : X + w ≤ W) (hh : Y + h ≤ H) (hk : k < w * h) : pq W X Y w k < W * H := by
  have hw0 : 0 < w := Nat.pos_of_ne_zero fun e => by subst e; simp at hk
  have a := Nat.mod_lt k hw0
  have b : k / w < h := Nat.div_lt_of_lt_mul hk
  unfold pq
  have h1 : (Y + k / w) * W + W ≤ H * W := by
    rw [← Nat.succ_mul]
    exact Nat.mul_le_mul_right _ (by omega)
  rw [Nat.mul_comm W H]
  omega
theorem pq_row {W X Y w j i : Nat} (hi : i < w) : pq W X Y w (j * w + i) = (Y + j) * W + (X + i) := by
  unfold pq
  rw [Nat.add_comm (j * w), Nat.add_mul_div_right _ _ (by omega), Nat.div_eq_of_lt hi, Nat.zero_add, Nat.add_mul_mod_self_right, Nat.mod_eq_of_lt hi]
end Go.Proofs.YtglfhmlcmffoaaaGreat

/-
  Levels in memory: rows of levels that are read, rows of the call's own.
-/
namespace Go.Proofs.YtglfhmlcmffoaaaGreat
open Go.RowKit

/-- A level in memory: its sides, its bytes as a value and as numbers. -/
abbrev Ent := Int × Int × Value × List Int
def absE (p : Ent) : Lev := (p.1, p.2.1, p.2.2.2)
def absL (L : List Ent) : List Lev := L.map absE
def ecells (p : Ent) : List Value := [.int .i64 p.1, .int .i64 p.2.1, p.2.2.1]
def lcells (L : List Ent) : List Value := L.flatMap ecells
theorem absL_len (L : List Ent) : (absL L).length = L.length := by simp [absL]
theorem absL_append (A B : List Ent) : absL (A ++ B) = absL A ++ absL B := by simp [absL]
theorem absL_get (L : List Ent) (i : Nat) (h : i < L.length) : (absL L)[i]'(by rw [absL_len]; exact h) = absE L[i] := by simp [absL]
theorem absL_getD (L : List Ent) (i : Nat) (h : i < L.length) : (absL L).getD i noLev = absE L[i] := by simp [absL, h]
theorem lcells_len (L : List Ent) : (lcells L).length = L.length * 3 := by
  induction L with
  | nil => rfl
  | cons x r ih =>
    unfold lcells at ih ⊢
    rw [List.flatMap_cons, List.length_append, ih]
    simp [ecells]
    omega
theorem lcells_append (A B : List Ent) : lcells (A ++ B) = lcells A ++ lcells B := by
  unfold lcells
  rw [List.flatMap_append]
theorem lcells_one (x : Ent) : lcells [x] = ecells x := by simp [lcells]
theorem lcells_get : ∀ (L : List Ent) (i : Nat) (h : i < L.length), (lcells L)[i * 3]? = some (.int .i64 L[i].1) ∧ (lcells L)[i * 3 + 1]? = some (.int .i64 L[i].2.1) ∧ (lcells L)[i * 3 + 2]? = some L[i].2.2.1
  | x :: r, 0, _ => ⟨rfl, rfl, rfl⟩
  | x :: r, i + 1, h => by
    have ih := lcells_get r i (by simpa using h)
    have e : lcells (x :: r) = ecells x ++ lcells r := rfl
    have el : (ecells x).length = 3 := rfl
    rw [e, List.getElem?_append_right (by omega), List.getElem?_append_right (by omega), List.getElem?_append_right (by omega), el]
    simp only [List.getElem_cons_succ]
    rw [show (i + 1) * 3 - 3 = i * 3 by omega, show (i + 1) * 3 + 1 - 3 = i * 3 + 1 by omega, show (i + 1) * 3 + 2 - 3 = i * 3 + 2 by omega]
    exact ih
/-- The bytes' cell of one level is set. -/
theorem lcells_set (A B : List Ent) (x : Ent) (v : Value) (ys : List Int) : (lcells (A ++ x :: B)).set (A.length * 3 + 2) v = lcells (A ++ (x.1, x.2.1, v, ys) :: B) := by
  rw [lcells_append, lcells_append, List.set_append_right _ _ (by rw [lcells_len]; omega), lcells_len, Nat.add_sub_cancel_left]
  rfl
theorem lcells_set3 (A B : List Ent) (x y : Ent) : (((lcells (A ++ x :: B)).set (A.length * 3) (.int .i64 y.1)).set (A.length * 3 + 1) (.int .i64 y.2.1)).set (A.length * 3 + 2) y.2.2.1 = lcells (A ++ y :: B) := by
  rw [lcells_append, lcells_append]
  have hl := lcells_len A
  rw [List.set_append_right _ _ (by omega), List.set_append_right _ _ (by omega), List.set_append_right _ _ (by omega), hl, Nat.add_sub_cancel_left, Nat.add_sub_cancel_left, Nat.sub_self]
  rfl
theorem lcells_setW (A B : List Ent) (x : Ent) (n : Int) : (lcells (A ++ x :: B)).set (A.length * 3) (.int .i64 n) = lcells (A ++ (n, x.2.1, x.2.2.1, x.2.2.2) :: B) := by
  rw [lcells_append, lcells_append, List.set_append_right _ _ (by rw [lcells_len]; omega), lcells_len, Nat.sub_self]
  rfl

/-- The slice value v holds the levels L in the world w. -/
structure LR (w : World) (v : Value) (L : List Ent) : Prop where
  shape : ∃ ao cap, v = .slice ao L.length cap ∧ (ao = none → cap = 0) ∧ L.length ≤ cap ∧ cap ≤ maxLen ∧ ∀ i (h : i < L.length), ∃ b off, ao = some ⟨b, off, none⟩ ∧
    w.cell? ⟨b, off + i * 3, none⟩ = some (.int .i64 L[i].1) ∧ w.cell? ⟨b, off + i * 3 + 1, none⟩ = some (.int .i64 L[i].2.1) ∧ w.cell? ⟨b, off + i * 3 + 2, none⟩ = some L[i].2.2.1
  row : ∀ p ∈ L, Row .u8 w p.2.2.1 p.2.2.2
theorem LR.ext {w w' : World} {v : Value} {L : List Ent} (h : LR w v L) (hx : Ext w w') : LR w' v L := by
  obtain ⟨ao, cap, e, h1, h2, h3, h4⟩ := h.shape
  refine ⟨⟨ao, cap, e, h1, h2, h3, fun i hi => ?_⟩, fun p hp => (h.row p hp).ext hx⟩
  obtain ⟨b, off, e2, c0, c1, c2⟩ := h4 i hi
  have hc : ∀ j u, w.cell? ⟨b, j, none⟩ = some u → w'.cell? ⟨b, j, none⟩ = some u := fun j u hu => by
    rw [hx.cell (p := ⟨b, j, none⟩) (World.block_lt_of_cell? w _ hu)]
    exact hu
  exact ⟨b, off, e2, hc _ _ c0, hc _ _ c1, hc _ _ c2⟩
theorem LR.nil (w : World) : LR w (.slice none 0 0) [] := ⟨⟨none, 0, rfl, fun _ => rfl, Nat.le_refl _, Nat.zero_le _, fun i hi => by simp at hi⟩, by simp⟩
/-- Level i: its cells, its bytes' value written out. -/
theorem LR.at {w : World} {ao : Option Addr} {n cap : Nat} {L : List Ent} (h : LR w (.slice ao n cap) L) (i : Nat) (hi : i < L.length) : ∃ b off bo bcap, ao = some ⟨b, off, none⟩ ∧ L[i].2.2.1 = .slice bo L[i].2.2.2.length bcap ∧
    w.cell? ⟨b, off + i * 3, none⟩ = some (.int .i64 L[i].1) ∧ w.cell? ⟨b, off + i * 3 + 1, none⟩ = some (.int .i64 L[i].2.1) ∧ w.cell? ⟨b, off + i * 3 + 2, none⟩ = some (.slice bo L[i].2.2.2.length bcap) ∧ Row .u8 w (.slice bo L[i].2.2.2.length bcap) L[i].2.2.2 := by
  obtain ⟨ao', cap', e, _, _, _, h4⟩ := h.shape
  cases e
  obtain ⟨b, off, e2, c0, c1, c2⟩ := h4 i hi
  have hr := h.row _ (List.getElem_mem hi)
  obtain ⟨bo, bcap, eb, _⟩ := hr.shape
  rw [eb] at c2 hr
  exact ⟨b, off, bo, bcap, e2, eb, c0, c1, c2, hr⟩
theorem LR.len {w : World} {ao : Option Addr} {n cap : Nat} {L : List Ent} (h : LR w (.slice ao n cap) L) : n = L.length := by
  obtain ⟨ao', cap', e, _⟩ := h.shape
  cases e
  rfl
/-- The first levels alone. -/
theorem LR.take {w : World} {ao : Option Addr} {n cap : Nat} {L : List Ent} (h : LR w (.slice ao n cap) L) (m : Nat) (hm : m ≤ L.length) : LR w (.slice ao m cap) (L.take m) := by
  obtain ⟨ao', cap', e, h1, h2, h3, h4⟩ := h.shape
  cases e
  have hl : (L.take m).length = m := by simp; omega
  refine ⟨⟨ao, cap, by rw [hl], h1, by rw [hl]; omega, h3, fun i hi => ?_⟩, fun p hp => h.row p (List.mem_of_mem_take hp)⟩
  rw [hl] at hi
  have := h4 i (by omega)
  simpa using this

/-- The slice value v is the call's own and holds the levels L, each with bytes of its own. -/
structure LO (w : World) (base : Nat) (v : Value) (L : List Ent) : Prop where
  own : w.ownsRow base 156 3 v L.length (lcells L)
  bys : ∀ p ∈ L, Own .u8 w base 5 p.2.2.1 p.2.2.2
  alone : L.Pairwise fun p q => ∀ b, p.2.2.1.ownBlock = some b → q.2.2.1.ownBlock ≠ some b

theorem row_lr {w : World} {base : Nat} {v : Value} {L : List Ent} (h : w.ownsRow base 156 3 v L.length (lcells L)) (hr : ∀ p ∈ L, Row .u8 w p.2.2.1 p.2.2.2) : LR w v L := by
  refine ⟨?_, hr⟩
  rcases h.2 with ⟨e, h0⟩ | ⟨g, cap, cur, e, hb, hg, hnc, hcm, hcs, htake⟩
  · refine ⟨none, 0, by rw [h0]; exact e, fun _ => rfl, by omega, Nat.zero_le _, fun i hi => by omega⟩
  · refine ⟨_, cap, e, (fun h => by cases h), hnc, hcm, fun i hi => ⟨g, 0, rfl, ?_⟩⟩
    have hc := World.ownsRow.cells h (g := g) (by rw [e]; rfl)
    obtain ⟨e0, e1, e2⟩ := lcells_get L i hi
    have c0 := hc _ _ e0
    have c1 := hc _ _ e1
    have c2 := hc _ _ e2
    rw [Addr.add_lit] at c0 c1 c2
    simp only [Nat.zero_add] at c0 c1 c2 ⊢
    exact ⟨c0, c1, c2⟩
section
variable {w w' : World} {base : Nat} {v : Value} {L : List Ent}
theorem LO.lr (h : LO w base v L) : LR w v L := row_lr h.own fun p hp => (h.bys p hp).row
theorem LO.nil (w : World) (base : Nat) : LO w base (.slice none 0 0) [] := ⟨World.ownsRow_nil _ _ _ _, by simp, by simp⟩
theorem ext_grown {w w' : World} (hx : Ext w w') (r : Option Nat) : w.grownBy w' r := ⟨hx.os, hx.tape, hx.output, hx.size, fun i hi _ => hx.block i hi⟩
theorem LO.ext (h : LO w base v L) (hx : Ext w w') : LO w' base v L := by
  refine ⟨World.ownsRow.kept h.own (ext_grown hx none) ?_, fun p hp => (h.bys p hp).kept hx, h.alone⟩
  cases v.ownBlock <;> simp
theorem row_lower {b2 : Nat} {e : TypeId} {size n : Nat} {xs : List Value} (h : w.ownsRow base e size v n xs) (hb : b2 ≤ base) : w.ownsRow b2 e size v n xs := by
  refine ⟨h.1, ?_⟩
  rcases h.2 with hn | ⟨g, cap, cur, e, h1, r⟩
  · exact .inl hn
  · exact .inr ⟨g, cap, cur, e, by omega, r⟩
theorem Own.lower {b2 : Nat} {xs : List Int} {e : TypeId} {k : IntKind} (h : Own k w base e v xs) (hb : b2 ≤ base) : Own k w b2 e v xs := row_lower h hb
theorem Own.grown {r : Nat} {xs : List Int} {e : TypeId} {k : IntKind} (h : Own k w base e v xs) (hg : w.grownBy w' (some r)) (hne : ∀ b, v.ownBlock = some b → b ≠ r) : Own k w' base e v xs := by
  refine World.ownsRow.kept h hg ?_
  cases hv : v.ownBlock with
  | none => exact .inl rfl
  | some b => exact .inr (fun e => hne b hv (by cases e; rfl))
theorem LO.lower {b2 : Nat} (h : LO w base v L) (hb : b2 ≤ base) : LO w b2 v L := ⟨row_lower h.own hb, fun p hp => (h.bys p hp).lower hb, h.alone⟩
/-- Bytes do not lie in a block of levels. -/
theorem own_ne {g : Nat} {cur : Array Value} {u : Value} {xs : List Int} (hg : w.heap[g]? = some (.cells cur 156 (0, 0))) (h : Own .u8 w base 5 u xs) : ∀ b, u.ownBlock = some b → b ≠ g := by
  intro b hb e
  subst e
  rcases h.2 with ⟨e, _⟩ | ⟨g2, cap, cur2, e, _, hg2, _⟩
  · rw [e] at hb
    cases hb
  · rw [e] at hb
    cases hb
    rw [hg] at hg2
    simp at hg2
theorem LO.cut (h : LO w base v L) : ∃ ao cap, v = .slice ao L.length cap ∧ (ao = none → cap = 0) ∧ L.length ≤ cap ∧ cap ≤ maxLen := by
  obtain ⟨ao, cap, e, h1, h2, h3, _⟩ := h.lr.shape
  exact ⟨ao, cap, e, h1, h2, h3⟩
/-- Where there is a level its block is known. -/
theorem LO.blk {ao : Option Addr} {n cap : Nat} (h : LO w base (.slice ao n cap) L) (hn : 0 < L.length) : ∃ g cur, ao = some ⟨g, 0, none⟩ ∧ n = L.length ∧ base ≤ g ∧ w.heap[g]? = some (.cells cur 156 (0, 0)) := by
  rcases h.own.2 with ⟨_, h0⟩ | ⟨g, c, cur, e, hb, hg, _⟩
  · omega
  · cases e
    exact ⟨g, cur, rfl, rfl, hb, hg⟩
end
theorem infoL : (Tryz.prog.info? 156).map (fun i => (i.zero, i.size, i.bytes)) = some (some (.agg #[.int .i64 0, .int .i64 0, .slice none 0 0]), 3, 40) := by kernel_rfl
theorem sizeL : (Tryz.prog.info? 156).map (·.size) = some 3 := by kernel_rfl
theorem sizeI : (Tryz.prog.info? 112).map (·.size) = some 6 := by kernel_rfl
theorem ecells_one {x : Ent} {ao : Option Addr} {n cap : Nat} (hx : x.2.2.1 = .slice ao n cap) : ∀ u ∈ ecells x, u.oneCell' = true := by
  intro u hu
  simp [ecells] at hu
  rcases hu with rfl | rfl | rfl
  · rfl
  · rfl
  · rw [hx]; rfl

/-- 'append(levels, x)', the levels' row the call's own, the block of x laid last. -/
theorem wpList_append_lev {w : World} {ops : Array Oper} {rest : List Oper} {o : Oper} {a : Act} {Q : Exit → Act → World → Prop} (hgd : o.guard = none) (s x : Operand)
    (ho : o.op = .call { callee := .builtin .append, args := #[s, x], argTypes := #[110, 110] }) (base : Nat) (v : Value) (L : List Ent) (y : Ent) (hs : a.eval s = v)
    (hown : w.ownsRow base 156 3 v L.length (lcells L)) (g c : Nat) (hx : a.eval x = .slice (some ⟨g, 0, none⟩) 1 c) (t : TypeId) (hB : Blk w g #[.int .i64 y.1, .int .i64 y.2.1, y.2.2.1] t) {yo : Option Addr} {yn ycap : Nat} (hy : y.2.2.1 = .slice yo yn ycap)
    (hL : L.length ≤ 3518437208780) (hbase : base ≤ w.heap.size)
    (h : ∀ ao cap w', w'.ownsRow base 156 3 (.slice ao (L.length + 1) cap) (L ++ [y]).length (lcells (L ++ [y])) → w.grownBy w' v.ownBlock → wpList Tryz.prog ops Q rest (a.put o.dst (.slice ao (L.length + 1) cap)) w') :
    wpList Tryz.prog ops Q (o :: rest) a w := by
  obtain ⟨i0, hi, hz0, hz1, hz2⟩ := info_parts infoL
  refine wpList_append_own w hgd s x 110 ho base 156 i0 _ 3 40 Tryz.underlying110 hi hz0 hz1 hz2 rfl (by decide) v L.length (lcells L) hs hown ⟨g, 0, none⟩ 1 c (ecells y) hx rfl ?_ (ecells_one hy) (by unfold maxLen; omega) (by omega) hbase ?_
  · intro j u hu
    rw [Addr.add_lit, Nat.zero_add]
    exact hB.cell (by simpa [ecells] using hu)
  · intro v' w' h1 h2 _
    rw [← lcells_one y, ← lcells_append] at h1
    have hl : (L ++ [y]).length = L.length + 1 := by simp
    have hsh : ∃ ao cap, v' = .slice ao (L.length + 1) cap := by
      rcases h1.2 with ⟨_, h0⟩ | ⟨g2, c2, cur, e, _⟩
      · omega
      · exact ⟨_, _, e⟩
    obtain ⟨ao, cap, rfl⟩ := hsh
    exact h ao cap w' (by rw [hl]; exact h1) h2
end Go.Proofs.YtglfhmlcmffoaaaGreat

/-
  Images: the walks of isSide, half, takes, within, lies, has, hasPowers, Count, firstWrong. What the dump lacks is left out.
-/
namespace Go.Proofs.YtglfhmlcmffoaaaGreat
open Go.RowKit
set_option linter.unusedVariables false
set_option linter.unusedSimpArgs false

set_option maxHeartbeats 1000000 in
theorem isSide_any (n : Int) (w : World) :
    Calls Tryz.prog 192 #[.int .i64 n] w fun e w' => e = .returned (.bool (sideB n)) ∧ w' = w := by
  by_cases a1 : 1 ≤ n
  · by_cases a2 : n ≤ 64
    · have E := hide (show sideB n = true by simp [sideB, a1, a2])
      go_enter Tryz.func192, Tryz.ntmps192
      go_wp2
      go_ret
      rw [unhide E]
      exact ⟨by simp [a2], rfl⟩
    · have E := hide (show sideB n = false by simp [sideB, a2])
      go_enter Tryz.func192, Tryz.ntmps192
      go_wp2
      go_ret
      rw [unhide E]
      exact ⟨by simp [a2], rfl⟩
  · have E := hide (show sideB n = false by simp [sideB, a1])
    go_enter Tryz.func192, Tryz.ntmps192
    go_wp2
    go_ret
    rw [unhide E]
    exact ⟨by simp, rfl⟩

set_option maxHeartbeats 1000000 in
theorem half_any (n : Int) (w : World) (h0 : 0 ≤ n) (h1 : n ≤ 1000) :
    Calls Tryz.prog 194 #[.int .i64 n] w fun e w' => e = .returned (.int .i64 (half n)) ∧ w' = w := by
  rcases (by omega : 1 < n / 2 ∨ n / 2 < 1 ∨ n / 2 = 1) with h | h | h
  · have E := hide (show half n = n / 2 by unfold half; omega)
    go_enter Tryz.func194, Tryz.ntmps194
    go_wp2
    go_ret
    rw [unhide E]
    exact ⟨by simp <;> omega, rfl⟩
  · have E := hide (show half n = 1 by unfold half; omega)
    go_enter Tryz.func194, Tryz.ntmps194
    go_wp2
    go_ret
    rw [unhide E]
    exact ⟨by simp <;> omega, rfl⟩
  · have E := hide (show half n = 1 by unfold half; omega)
    go_enter Tryz.func194, Tryz.ntmps194
    go_wp2
    go_ret
    rw [unhide E]
    exact ⟨by simp <;> omega, rfl⟩

set_option maxHeartbeats 1000000 in
theorem takes_any (k n : Int) (w : World) :
    Calls Tryz.prog 166 #[.int .i64 k, .int .i64 n] w fun e w' => e = .returned (.bool (valB k n)) ∧ w' = w := by
  by_cases k1 : k = 1 ∨ k = 2
  · by_cases a1 : 1 ≤ n
    · by_cases a2 : n ≤ 3
      · have E := hide (show valB k n = true by simp [valB, k1, a1, a2])
        rcases k1 with rfl | rfl
        all_goals
          go_enter Tryz.func166, Tryz.ntmps166
          go_wp2
          go_ret
          rw [unhide E]
          exact ⟨by simp [a2], rfl⟩
      · have E := hide (show valB k n = false by simp [valB, k1, a2])
        rcases k1 with rfl | rfl
        all_goals
          go_enter Tryz.func166, Tryz.ntmps166
          go_wp2
          go_ret
          rw [unhide E]
          exact ⟨by simp [a2], rfl⟩
    · have E := hide (show valB k n = false by simp [valB, k1, a1])
      rcases k1 with rfl | rfl
      all_goals
        go_enter Tryz.func166, Tryz.ntmps166
        go_wp2
        go_ret
        rw [unhide E]
        exact ⟨by simp, rfl⟩
  · have n1 : (k == 1) = false := by simp; omega
    have n2 : (k == 2) = false := by simp; omega
    by_cases k3 : k = 3
    · subst k3
      by_cases a1 : 1 ≤ n
      · by_cases a2 : n ≤ 4
        · have E := hide (show valB 3 n = true by simp [valB, a1, a2])
          go_enter Tryz.func166, Tryz.ntmps166
          go_wp2
          go_ret
          rw [unhide E]
          exact ⟨by simp [a2], rfl⟩
        · have E := hide (show valB 3 n = false by simp [valB, a2])
          go_enter Tryz.func166, Tryz.ntmps166
          go_wp2
          go_ret
          rw [unhide E]
          exact ⟨by simp [a2], rfl⟩
      · have E := hide (show valB 3 n = false by simp [valB, a1])
        go_enter Tryz.func166, Tryz.ntmps166
        go_wp2
        go_ret
        rw [unhide E]
        exact ⟨by simp, rfl⟩
    · have n3 : (k == 3) = false := by simp; omega
      by_cases k4 : k = 4
      · subst k4
        by_cases a1 : n = 1
        · subst a1
          go_enter Tryz.func166, Tryz.ntmps166
          go_wp2
          go_ret
          exact ⟨rfl, rfl⟩
        · have b1 : (n == 1) = false := by simp; omega
          have E := hide (show valB 4 n = (n == 2) by simp [valB, a1]; rfl)
          clear a1
          go_enter Tryz.func166, Tryz.ntmps166
          go_wp2
          go_ret
          rw [unhide E]
          exact ⟨by simp, rfl⟩
      · have n4 : (k == 4) = false := by simp; omega
        have E := hide (show valB k n = false by unfold valB; rw [if_neg k1, if_neg k3, if_neg k4])
        clear k1 k3 k4
        go_enter Tryz.func166, Tryz.ntmps166
        go_wp2
        go_ret
        rw [unhide E]
        exact ⟨rfl, rfl⟩

section
variable {w : World} {v : Value} {L : List Ent} {I : Img}
set_option maxHeartbeats 1000000 in
theorem has_any (h : LR w v L) (i : Int) :
    Calls Tryz.prog 165 #[.agg #[.int .i64 I.f, v, .int .i64 I.ws, .int .i64 I.wt, .int .i64 I.mn, .int .i64 I.mg], .int .i64 i] w fun e w' => e = .returned (.bool (hasB (absL L) i)) ∧ Ext w w' := by
  obtain ⟨ao, cap, rfl, hao, hlc, hcm, _⟩ := h.shape
  have hcm2 : cap ≤ 9223372036854775807 := by unfold maxLen at hcm; omega
  have HX := hide ((Ext.refl w).alloc (.cells #[.int .i64 I.f, .slice ao L.length cap, .int .i64 I.ws, .int .i64 I.wt, .int .i64 I.mn, .int .i64 I.mg] 112))
  by_cases a1 : 0 ≤ i
  · obtain ⟨k, rfl⟩ := Int.eq_ofNat_of_zero_le a1
    by_cases a2 : k < L.length
    · obtain ⟨b, off, bo, bcap, rfl, eb, c0, c1, c2, hr⟩ := (h.ext (unhide HX)).at k a2
      have E := hide (show hasB (absL L) (k : Int) = decide (0 < L[k].1) by unfold hasB; rw [absL_len, Int.toNat_natCast, absL_getD L k a2]; simp [a2, absE]; rfl)
      have a3 : (k : Int) < (L.length : Int) := by omega
      generalize L[k].1 = W at c0 E
      clear h c1 c2 hr eb hao a2 hcm
      go_enter Tryz.func165, Tryz.ntmps165
      go_wp2
      go_ret
      rw [unhide E]
      exact ⟨by simp, unhide HX⟩
    · have E := hide (show hasB (absL L) (k : Int) = false by simp [hasB, absL_len]; omega)
      have a3 : ¬ (k : Int) < (L.length : Int) := by omega
      clear h hao a2 hcm
      go_enter Tryz.func165, Tryz.ntmps165
      go_wp2
      go_ret
      rw [unhide E]
      exact ⟨by simp, unhide HX⟩
  · have E := hide (show hasB (absL L) i = false by simp [hasB, a1])
    clear h hao hcm
    go_enter Tryz.func165, Tryz.ntmps165
    go_wp2
    go_ret
    rw [unhide E]
    exact ⟨by simp, unhide HX⟩
end

theorem pow_bits {n : Int} (h1 : 1 ≤ n) (h2 : n ≤ 64) : (bits .and .i64 n (n - 1) == 0) = powB n := by
  have key : ∀ k : Nat, k < 65 → 1 ≤ k → (bits .and .i64 ((k : Nat) : Int) ((k : Int) - 1) == 0) = powB (k : Int) := by decide
  obtain ⟨k, rfl⟩ := Int.eq_ofNat_of_zero_le (show 0 ≤ n by omega)
  exact key k (by omega) (by omega)
set_option maxHeartbeats 1000000 in
theorem hasPowers_any (W H : Int) (u : Value) (ao : Option Addr) (n cap : Nat) (hu : u = .slice ao n cap) (hW : 1 ≤ W ∧ W ≤ 64) (hH : 1 ≤ H ∧ H ≤ 64) (w : World) :
    Calls Tryz.prog 167 #[.agg #[.int .i64 W, .int .i64 H, u]] w fun e w' => e = .returned (.bool (powB W && powB H)) ∧ Ext w w' := by
  subst hu
  have HX := hide ((Ext.refl w).alloc (.cells #[.int .i64 W, .int .i64 H, .slice ao n cap] 156))
  have e1 := pow_bits hW.1 hW.2
  have e2 := pow_bits hH.1 hH.2
  have b1 := hW.1
  have b2 := hW.2
  have b3 := hH.1
  have b4 := hH.2
  clear hW hH
  cases hb : powB W with
  | false =>
    rw [hb] at e1
    clear hb
    generalize powB H = y at *
    go_enter Tryz.func167, Tryz.ntmps167
    go_wp2
    go_ret
    exact ⟨by simp, unhide HX⟩
  | true =>
    rw [hb] at e1
    clear hb
    generalize powB H = y at *
    go_enter Tryz.func167, Tryz.ntmps167
    go_wp2
    go_ret
    exact ⟨by simp, unhide HX⟩
end Go.Proofs.YtglfhmlcmffoaaaGreat
