/-
  Plain facts on pictures: levels, how many there are, places of pieces, means of pixels. Nothing here speaks of the program.
-/
import Derived.Test.YtpjapdifmfpcnaaNum
namespace Go.Proofs.Ytpjapdifmfpcnaa
open Go.RowKit

/-- A level: its sides, its bytes. -/
abbrev Lev := Int × Int × List Int
/-- An image. -/
structure Img where
  f : Int
  L : List Lev
  ws : Int
  wt : Int
  mn : Int
  mg : Int
def zimg : Img := ⟨0, [], 0, 0, 0, 0⟩
def noLev : Lev := (0, 0, [])

def sideB (n : Int) : Bool := decide (1 ≤ n ∧ n ≤ 64)
theorem sideB_iff {n : Int} : sideB n = true ↔ 1 ≤ n ∧ n ≤ 64 := by simp [sideB]
theorem sideB_no {n : Int} : sideB n = false ↔ ¬ (1 ≤ n ∧ n ≤ 64) := by simp [sideB]
/-- May a parameter have a value? -/
def valB (which value : Int) : Bool :=
  if which = 1 ∨ which = 2 then decide (1 ≤ value ∧ value ≤ 3) else if which = 3 then decide (1 ≤ value ∧ value ≤ 4) else if which = 4 then decide (value = 1 ∨ value = 2) else false
/-- A level that is not there. -/
def noneB (l : Lev) : Bool := decide (l.1 = 0 ∧ l.2.1 = 0 ∧ l.2.2.length = 0)
/-- A level that is there, with all its bytes. -/
def goodB (s : Int) (l : Lev) : Bool := decide ((1 ≤ l.1 ∧ l.1 ≤ 64) ∧ (1 ≤ l.2.1 ∧ l.2.1 ≤ 64) ∧ (l.2.2.length : Int) = l.1 * l.2.1 * s)
def lvB (s : Int) (l : Lev) : Bool := noneB l || goodB s l
theorem noneB_iff {l : Lev} : noneB l = true ↔ l.1 = 0 ∧ l.2.1 = 0 ∧ l.2.2.length = 0 := by simp [noneB]
theorem goodB_iff {s : Int} {l : Lev} : goodB s l = true ↔ (1 ≤ l.1 ∧ l.1 ≤ 64) ∧ (1 ≤ l.2.1 ∧ l.2.1 ≤ 64) ∧ (l.2.2.length : Int) = l.1 * l.2.1 * s := by simp [goodB]
/-- Is level i there? -/
def hasB (L : List Lev) (i : Int) : Bool := decide (0 ≤ i ∧ i < L.length) && decide (0 < (L.getD i.toNat noLev).1)
/-- May an image be? s: the bytes of a pixel of its format. -/
def okB (s : Int) (I : Img) : Bool :=
  decide (I.L.length ≤ 7) && decide (I.L.length = 0 → I.f = 0) && I.L.all (lvB s) && decide (0 < I.L.length → s ≠ 0 ∧ hasB I.L ((I.L.length : Int) - 1) = true) &&
  valB 1 I.ws && valB 2 I.wt && valB 3 I.mn && valB 4 I.mg
theorem okB_iff {s : Int} {I : Img} : okB s I = true ↔ I.L.length ≤ 7 ∧ (I.L.length = 0 → I.f = 0) ∧ (∀ l ∈ I.L, lvB s l = true) ∧ (0 < I.L.length → s ≠ 0 ∧ hasB I.L ((I.L.length : Int) - 1) = true) ∧ valB 1 I.ws = true ∧ valB 2 I.wt = true ∧ valB 3 I.mn = true ∧ valB 4 I.mg = true := by
  simp only [okB, Bool.and_eq_true, decide_eq_true_eq, List.all_eq_true, and_assoc]
/-- The place of the first level that is wrong. -/
def wrongAt (s : Int) (L : List Lev) : Nat := L.findIdx fun l => !lvB s l
theorem wrongAt_le (s : Int) (L : List Lev) : wrongAt s L ≤ L.length := List.findIdx_le_length
theorem wrongAt_all (s : Int) (L : List Lev) : wrongAt s L = L.length ↔ ∀ l ∈ L, lvB s l = true := by
  unfold wrongAt
  rw [List.findIdx_eq_length]
  simp

/-! ### How many levels -/
def half (n : Int) : Int := max 1 (n / 2)
/-- How often a number up to 64 can be halved till it is 1. -/
def lg (m : Int) : Nat := if m < 2 then 0 else if m < 4 then 1 else if m < 8 then 2 else if m < 16 then 3 else if m < 32 then 4 else if m < 64 then 5 else 6
theorem lg_le (m : Int) : lg m ≤ 6 := by
  unfold lg
  repeat' split
  all_goals omega
theorem lg_one {m : Int} (h : m < 2) : lg m = 0 := by unfold lg; rw [if_pos h]
theorem lg_half {m : Int} (h : 2 ≤ m) (h2 : m ≤ 64) : lg m = lg (m / 2) + 1 := by
  unfold lg
  repeat' split
  all_goals omega
def lgs (w h : Int) : Nat := lg (max w h)
theorem lgs_one {w h : Int} (hw : w ≤ 1) (hh : h ≤ 1) : lgs w h = 0 := lg_one (by omega)
theorem lgs_half {w h : Int} (h1 : 1 < w ∨ 1 < h) (hw : 1 ≤ w ∧ w ≤ 64) (hh : 1 ≤ h ∧ h ≤ 64) : lgs w h = lgs (half w) (half h) + 1 := by
  unfold lgs half
  rw [lg_half (by omega) (by omega)]
  congr 2
  omega
theorem lgs_div {w h : Int} (h1 : 1 < w ∨ 1 < h) (hw : w ≤ 64) (hh : h ≤ 64) : lgs w h = lgs (w / 2) (h / 2) + 1 := by
  unfold lgs
  rw [lg_half (by omega) (by omega)]
  congr 2
  omega
def cntI (w h : Int) : Int := if sideB w = true ∧ sideB h = true then (lgs w h : Int) + 1 else 0
theorem half_side {n : Int} (h : 1 ≤ n ∧ n ≤ 64) : 1 ≤ half n ∧ half n ≤ 64 := by unfold half; omega
/-- The side, halved so often. -/
def halfs (n : Int) : Nat → Int
  | 0 => n
  | k + 1 => half (halfs n k)
theorem halfs_side {n : Int} (h : 1 ≤ n ∧ n ≤ 64) (k : Nat) : 1 ≤ halfs n k ∧ halfs n k ≤ 64 := by
  induction k with
  | zero => exact h
  | succ k ih => exact half_side ih
theorem halfs_pow {n : Int} (h : 1 ≤ n) (k : Nat) : halfs n k = max 1 (n / 2 ^ k) := by
  induction k with
  | zero => simp [halfs]; omega
  | succ k ih =>
    unfold halfs
    rw [ih, Int.pow_succ, ← Int.ediv_ediv_of_nonneg (Int.pow_nonneg (by omega))]
    unfold half
    generalize n / 2 ^ k = x
    omega
theorem halfs_shift (n : Int) (k : Nat) : halfs (half n) k = halfs n (k + 1) := by
  induction k with
  | zero => rfl
  | succ k ih => unfold halfs; rw [ih]
theorem lgs_halfs {w h : Int} (hw : 1 ≤ w ∧ w ≤ 64) (hh : 1 ≤ h ∧ h ≤ 64) : ∀ k, k ≤ lgs w h → lgs (halfs w k) (halfs h k) = lgs w h - k
  | 0, _ => rfl
  | k + 1, hk => by
    have ih := lgs_halfs hw hh k (by omega)
    have a := halfs_side hw k
    have b := halfs_side hh k
    by_cases h1 : 1 < halfs w k ∨ 1 < halfs h k
    · have := lgs_half h1 a b
      unfold halfs
      omega
    · have := lgs_one (w := halfs w k) (h := halfs h k) (by omega) (by omega)
      omega
theorem lgs_end {w h : Int} (hw : 1 ≤ w ∧ w ≤ 64) (hh : 1 ≤ h ∧ h ≤ 64) {k : Nat} (hk : k ≤ lgs w h) : (1 < halfs w k ∨ 1 < halfs h k) ↔ k < lgs w h := by
  have h0 := lgs_halfs hw hh k hk
  have a := halfs_side hw k
  have b := halfs_side hh k
  constructor
  · intro h1
    have := lgs_half h1 a b
    omega
  · intro h1
    by_cases h2 : 1 < halfs w k ∨ 1 < halfs h k
    · exact h2
    · have := lgs_one (w := halfs w k) (h := halfs h k) (by omega) (by omega)
      omega
/-- The sides that are powers of 2. -/
def powB (n : Int) : Bool := decide (n = 1 ∨ n = 2 ∨ n = 4 ∨ n = 8 ∨ n = 16 ∨ n = 32 ∨ n = 64)
theorem powB_iff {n : Int} : powB n = true ↔ n = 1 ∨ n = 2 ∨ n = 4 ∨ n = 8 ∨ n = 16 ∨ n = 32 ∨ n = 64 := by simp [powB]
theorem powB_half {n : Int} (h : powB n = true) : powB (half n) = true := by
  rw [powB_iff] at h ⊢
  unfold half
  omega
theorem powB_even {n : Int} (h : powB n = true) (h1 : 1 < n) : n = 2 * half n := by
  rw [powB_iff] at h
  unfold half
  omega
theorem powB_side {n : Int} (h : powB n = true) : 1 ≤ n ∧ n ≤ 64 := by
  rw [powB_iff] at h
  omega

/-! ### Pieces -/
/-- Does a piece lie in a level? -/
def inP (W H X Y w h : Int) : Bool := decide (0 ≤ X ∧ X ≤ W ∧ 0 ≤ w ∧ w ≤ W - X) && decide (0 ≤ Y ∧ Y ≤ H ∧ 0 ≤ h ∧ h ≤ H - Y)
/-- The place of the k-th pixel of a piece of width w at X, Y of a level of width W. -/
def pq (W X Y w k : Nat) : Nat := (Y + k / w) * W + (X + k % w)
/-- The bytes of a pixel. -/
def cellL (s : Nat) (xs : List Int) (q : Nat) : List Int := (xs.drop (q * s)).take s
/-- The bytes of the first n pixels of a piece. -/
def getK (s : Nat) (xs : List Int) (q : Nat → Nat) : Nat → List Int
  | 0 => []
  | n + 1 => getK s xs q n ++ cellL s xs (q n)
/-- Bytes laid at a place. -/
def layB (bs : List Int) (p : Nat) (xs : List Int) : List Int := bs.take p ++ xs ++ bs.drop (p + xs.length)
/-- The first n pixels of a piece laid. -/
def subK (s : Nat) (xs : List Int) (q : Nat → Nat) (b : List Int) : Nat → List Int
  | 0 => xs
  | n + 1 => layB (subK s xs q b n) (q n * s) (cellL s b n)
theorem layB_len {bs xs : List Int} {p : Nat} (h : p + xs.length ≤ bs.length) : (layB bs p xs).length = bs.length := by
  unfold layB
  simp
  omega
theorem cellL_len {s q : Nat} {xs : List Int} (h : (q + 1) * s ≤ xs.length) : (cellL s xs q).length = s := by
  unfold cellL
  rw [Nat.succ_mul] at h
  simp
  omega
theorem getK_len {s : Nat} {xs : List Int} {q : Nat → Nat} : ∀ n, (∀ k, k < n → (q k + 1) * s ≤ xs.length) → (getK s xs q n).length = n * s
  | 0, _ => by simp [getK]
  | n + 1, h => by
    rw [getK, List.length_append, getK_len n (fun k hk => h k (by omega)), cellL_len (h n (by omega)), Nat.succ_mul]
theorem subK_len {s : Nat} {xs : List Int} {q : Nat → Nat} {b : List Int} : ∀ n, (∀ k, k < n → (q k + 1) * s ≤ xs.length) → n * s ≤ b.length → (subK s xs q b n).length = xs.length
  | 0, _, _ => rfl
  | n + 1, h, hb => by
    have ih := subK_len (b := b) n (fun k hk => h k (by omega)) (by rw [Nat.succ_mul] at hb; omega)
    have hq := h n (by omega)
    rw [Nat.succ_mul] at hq
    rw [subK, layB_len, ih]
    rw [ih, cellL_len hb]
    exact hq
/-- A pixel that is laid is got. -/
theorem cell_lay_same {s q : Nat} {xs ys : List Int} (h : (q + 1) * s ≤ xs.length) (hy : ys.length = s) : cellL s (layB xs (q * s) ys) q = ys := by
  rw [Nat.succ_mul] at h
  unfold cellL layB
  rw [List.append_assoc, List.drop_append, List.drop_of_length_le (by simp; omega), List.length_take, Nat.min_eq_left (by omega), Nat.sub_self, List.nil_append, List.drop_zero, List.take_append, List.take_of_length_le (by omega)]
  simp [hy]
theorem cell_lay_other {s q r : Nat} {xs ys : List Int} (h : (q + 1) * s ≤ xs.length) (hy : ys.length = s) (hne : r ≠ q) : cellL s (layB xs (q * s) ys) r = cellL s xs r := by
  rw [Nat.succ_mul] at h
  unfold cellL layB
  have hl : (xs.take (q * s)).length = q * s := by simp; omega
  rcases Nat.lt_or_gt_of_ne hne with h1 | h1
  · have h2 : (r + 1) * s ≤ q * s := Nat.mul_le_mul_right _ (by omega)
    rw [Nat.succ_mul] at h2
    rw [List.append_assoc, List.drop_append_of_le_length (by omega), List.take_append_of_le_length (by simp; omega), List.drop_take, List.take_take, Nat.min_eq_left (by omega)]
  · have h2 : (q + 1) * s ≤ r * s := Nat.mul_le_mul_right _ (by omega)
    rw [Nat.succ_mul] at h2
    rw [List.drop_append, List.drop_of_length_le (by simp; omega), List.nil_append, List.length_append, hl, hy, List.drop_drop]
    congr 2
    omega
theorem lay_cell {s q : Nat} {xs : List Int} (h : (q + 1) * s ≤ xs.length) : layB xs (q * s) (cellL s xs q) = xs := by
  have hl := cellL_len h
  unfold layB
  rw [hl]
  unfold cellL
  rw [← List.drop_drop, List.append_assoc, List.take_append_drop, List.take_append_drop]
/-- Lists of so many pixels are the same if all pixels are. -/
theorem cells_ext {s : Nat} : ∀ (n : Nat) {xs ys : List Int}, xs.length = n * s → ys.length = n * s → (∀ q, q < n → cellL s xs q = cellL s ys q) → xs = ys
  | 0, xs, ys, hx, hy, _ => by
    rw [Nat.zero_mul] at hx hy
    rw [List.eq_nil_of_length_eq_zero hx, List.eq_nil_of_length_eq_zero hy]
  | n + 1, xs, ys, hx, hy, h => by
    rw [Nat.succ_mul] at hx hy
    have h0 := h 0 (by omega)
    unfold cellL at h0
    rw [Nat.zero_mul, List.drop_zero, List.drop_zero] at h0
    have ih : xs.drop s = ys.drop s := by
      refine cells_ext (s := s) n (by simp; omega) (by simp; omega) fun q hq => ?_
      have h1 := h (q + 1) (by omega)
      unfold cellL at h1 ⊢
      rw [List.drop_drop, List.drop_drop]
      rw [Nat.succ_mul] at h1
      rw [Nat.add_comm s (q * s)]
      exact h1
    rw [← List.take_append_drop s xs, ← List.take_append_drop s ys, h0, ih]
theorem cell_getK {s : Nat} {xs : List Int} {q : Nat → Nat} : ∀ n, (∀ k, k < n → (q k + 1) * s ≤ xs.length) → ∀ k, k < n → cellL s (getK s xs q n) k = cellL s xs (q k)
  | 0, _, k, hk => by omega
  | n + 1, h, k, hk => by
    have hl := getK_len (q := q) (xs := xs) n (fun k hk => h k (by omega))
    by_cases hkn : k = n
    · subst hkn
      have h2 := cellL_len (h k (by omega))
      rw [getK]
      unfold cellL at h2 ⊢
      rw [List.drop_append, List.drop_of_length_le (by omega), hl, Nat.sub_self, List.drop_zero, List.nil_append, List.take_of_length_le (by omega)]
    · rw [getK, ← cell_getK n (fun k hk => h k (by omega)) k (by omega)]
      have h3 : (k + 1) * s ≤ n * s := Nat.mul_le_mul_right _ (by omega)
      rw [Nat.succ_mul] at h3
      unfold cellL
      rw [List.drop_append_of_le_length (by omega), List.take_append_of_le_length (by simp; omega)]
/-- What was laid, pixel by pixel. -/
theorem cell_subK {s : Nat} {xs : List Int} {q : Nat → Nat} {b : List Int} : ∀ n, (∀ k, k < n → (q k + 1) * s ≤ xs.length) → n * s ≤ b.length → (∀ j k, j < n → k < n → q j = q k → j = k) →
    (∀ k, k < n → cellL s (subK s xs q b n) (q k) = cellL s b k) ∧ (∀ r, (∀ k, k < n → q k ≠ r) → cellL s (subK s xs q b n) r = cellL s xs r)
  | 0, _, _, _ => ⟨fun k hk => by omega, fun r _ => rfl⟩
  | n + 1, h, hb, hinj => by
    have hb2 : n * s ≤ b.length := by rw [Nat.succ_mul] at hb; omega
    obtain ⟨i1, i2⟩ := cell_subK (b := b) n (fun k hk => h k (by omega)) hb2 (fun j k hj hk e => hinj j k (by omega) (by omega) e)
    have hl := subK_len (b := b) n (fun k hk => h k (by omega)) hb2
    have hq := h n (by omega)
    rw [← hl] at hq
    have hy := cellL_len (xs := b) (q := n) hb
    refine ⟨fun k hk => ?_, fun r hr => ?_⟩
    · by_cases hkn : k = n
      · subst hkn
        rw [subK]
        exact cell_lay_same hq hy
      · rw [subK, cell_lay_other hq hy (fun e => hkn (hinj k n hk (by omega) e))]
        exact i1 k (by omega)
    · rw [subK, cell_lay_other hq hy (fun e => hr n (by omega) e.symm)]
      exact i2 r (fun k hk => hr k (by omega))
theorem pq_inj {W X Y w : Nat} (hw : X + w ≤ W) {n : Nat} (hn : n = 0 ∨ 0 < w) (j k : Nat) (hj : j < n) (_hk : k < n) (e : pq W X Y w j = pq W X Y w k) : j = k := by
  have hw0 : 0 < w := by omega
  unfold pq at e
  have a := Nat.mod_lt j hw0
  have b := Nat.mod_lt k hw0
  have e1 : (Y + j / w) = (Y + k / w) := by
    have h1 : ((Y + j / w) * W + (X + j % w)) / W = ((Y + k / w) * W + (X + k % w)) / W := by rw [e]
    rw [Nat.add_comm, Nat.add_mul_div_right _ _ (by omega), Nat.div_eq_of_lt (show X + j % w < W by omega), Nat.zero_add, Nat.add_comm ((Y + k / w) * W), Nat.add_mul_div_right _ _ (by omega), Nat.div_eq_of_lt (show X + k % w < W by omega), Nat.zero_add] at h1
    exact h1
  rw [e1] at e
  have e2 : j % w = k % w := by omega
  have e3 : j / w = k / w := by omega
  rw [← Nat.div_add_mod j w, ← Nat.div_add_mod k w, e2, e3]
theorem pq_lt {W H X Y w h k : Nat} (hw : X + w ≤ W) (hh : Y + h ≤ H) (hk : k < w * h) : pq W X Y w k < W * H := by
  have hw0 : 0 < w := Nat.pos_of_ne_zero fun e => by subst e; simp at hk
  have a := Nat.mod_lt k hw0
  have b : k / w < h := Nat.div_lt_of_lt_mul hk
  unfold pq
  have h1 : (Y + k / w) * W + W ≤ H * W := by
    rw [← Nat.succ_mul]
    exact Nat.mul_le_mul_right _ (by omega)
  rw [Nat.mul_comm W H]
  omega
theorem pq_row {W X Y w j i : Nat} (hi : i < w) : pq W X Y w (j * w + i) = (Y + j) * W + (X + i) := by
  unfold pq
  rw [Nat.add_comm (j * w), Nat.add_mul_div_right _ _ (by omega), Nat.div_eq_of_lt hi, Nat.zero_add, Nat.add_mul_mod_self_right, Nat.mod_eq_of_lt hi]
end Go.Proofs.Ytpjapdifmfpcnaa
