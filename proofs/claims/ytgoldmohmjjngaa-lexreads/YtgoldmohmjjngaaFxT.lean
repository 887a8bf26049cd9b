/-
  Doubling a row of digits, and what is left of a part doubled seventeen times. Nothing here speaks of the program but the kind of its bytes.
-/
import Derived.Test.YtgoldmohmjjngaaFxR
import Derived.Test.YtgoldmohmjjngaaNum
import Derived.Test.YtgoldmohmjjngaaBlk
import Derived.Laws.IdiomStrings
import Derived.Lib.TrimByte
import Derived.Laws.AppendOwn
namespace Go.Proofs.Ytgoldmohmjjngaa
open Go.RowKit
set_option linter.unusedVariables false
set_option linter.unusedSimpArgs false

/-- Twice a row of digits, and what passes its head. -/
def dbl : List Int → List Int × Int
  | [] => ([], 0)
  | x :: l => ((48 + (2 * (x - 48) + (dbl l).2) % 10) :: (dbl l).1, (2 * (x - 48) + (dbl l).2) / 10)
def valI : List Int → Int
  | [] => 0
  | x :: l => (x - 48) * 10 ^ l.length + valI l
def Digs (l : List Int) : Prop := ∀ x ∈ l, 48 ≤ x ∧ x ≤ 57

theorem dbl_facts (l : List Int) (h : Digs l) : (dbl l).1.length = l.length ∧ Digs (dbl l).1 ∧ 0 ≤ (dbl l).2 ∧ (dbl l).2 ≤ 1 ∧ 2 * valI l = (dbl l).2 * 10 ^ l.length + valI (dbl l).1 := by
  induction l with
  | nil => simp [dbl, valI, Digs]
  | cons x l ih =>
    obtain ⟨h1, h2, h3, h4, h5⟩ := ih (fun y hy => h y (by simp [hy]))
    have hx := h x (by simp)
    simp only [dbl, valI, List.length_cons, h1]
    generalize (dbl l).2 = c at *
    generalize (dbl l).1 = l' at *
    refine ⟨trivial, ?_, by omega, by omega, ?_⟩
    · intro y hy
      rcases List.mem_cons.1 hy with rfl | hy
      · omega
      · exact h2 y hy
    · rw [Int.mul_add, h5]
      have e : (10 : Int) ^ (l.length + 1) = 10 * 10 ^ l.length := by rw [Int.pow_succ, Int.mul_comm]
      rw [e]
      generalize (10 : Int) ^ l.length = T
      have k : 2 * (x - 48) + c = 10 * ((2 * (x - 48) + c) / 10) + (2 * (x - 48) + c) % 10 := by omega
      generalize (2 * (x - 48) + c) / 10 = q at *
      generalize (2 * (x - 48) + c) % 10 = r at *
      have k2 : (2 * (x - 48) + c) * T = (10 * q + r) * T := by rw [k]
      have k3 : 48 + r - 48 = r := by omega
      rw [k3]
      simp only [Int.add_mul, Int.mul_assoc, Int.sub_mul] at k2 ⊢
      have k4 : q * (10 * T) = 10 * (q * T) := by rw [Int.mul_left_comm]
      rw [k4]
      omega
theorem valI_bounds (l : List Int) (h : Digs l) : 0 ≤ valI l ∧ valI l < 10 ^ l.length := by
  induction l with
  | nil => simp [valI]
  | cons x l ih =>
    obtain ⟨h1, h2⟩ := ih (fun y hy => h y (by simp [hy]))
    have hx := h x (by simp)
    simp only [valI, List.length_cons]
    have e : (10 : Int) ^ (l.length + 1) = 10 * 10 ^ l.length := by rw [Int.pow_succ, Int.mul_comm]
    rw [e]
    generalize (10 : Int) ^ l.length = T at *
    have a := Int.mul_nonneg (show 0 ≤ x - 48 by omega) (show 0 ≤ T by omega)
    have b := Int.mul_le_mul_of_nonneg_right (show x - 48 ≤ 9 by omega) (show 0 ≤ T by omega)
    omega
/-- The bytes of a text, as numbers. -/
def nums (l : List UInt8) : List Int := l.map fun c => (c.toNat : Int)
theorem nums_digs {l : List UInt8} (h : ∀ c ∈ l, isDig c) : Digs (nums l) := by
  intro x hx
  obtain ⟨c, hc, rfl⟩ := List.mem_map.1 hx
  have := h c hc
  unfold isDig at this
  omega
theorem valI_nums (l : List UInt8) (h : ∀ c ∈ l, isDig c) : valI (nums l) = (valN l : Int) := by
  induction l with
  | nil => rfl
  | cons c l ih =>
    have hc := h c (by simp)
    unfold isDig at hc
    have e := ih (fun x hx => h x (by simp [hx]))
    simp only [nums, List.map_cons, valI, valN] at e ⊢
    rw [e]
    have hs : ((c.toNat : Int) - 48) = ((c.toNat - 48 : Nat) : Int) := by omega
    rw [hs]
    simp
/-- What the seventeen doublings leave, to the nearest. -/
def rawHalf (A B : List UInt8) : Int := (131072 * nfold A 0 + ((valN B * 131072 / 10 ^ B.length : Nat) : Int) + 1) / 2
/-- The relation of the doublings: j of them done. -/
def Dbl (n : Int) (f0 : List Int) (j : Nat) (f : List Int) (raw : Int) : Prop := Digs f ∧ f.length = f0.length ∧ raw * 10 ^ f0.length + valI f = 2 ^ j * (n * 10 ^ f0.length + valI f0)
theorem Dbl.step {n : Int} {f0 f : List Int} {j : Nat} {raw : Int} (h : Dbl n f0 j f raw) : Dbl n f0 (j + 1) (dbl f).1 (2 * raw + (dbl f).2) := by
  obtain ⟨h1, h2, h3⟩ := h
  obtain ⟨k1, k2, _, _, k5⟩ := dbl_facts f h1
  refine ⟨k2, k1.trans h2, ?_⟩
  have e : (2 : Int) ^ (j + 1) = 2 * 2 ^ j := by rw [Int.pow_succ, Int.mul_comm]
  rw [e, Int.mul_assoc, ← h3, h2] at *
  rw [Int.mul_add, k5, Int.add_mul, Int.mul_assoc]
  omega
theorem Dbl.bound {n : Int} {f0 f : List Int} {j : Nat} {raw : Int} (h : Dbl n f0 j f raw) (hd : Digs f0) (hn : 0 ≤ n ∧ n ≤ 1048576) (hj : j ≤ 17) : 0 ≤ raw ∧ raw ≤ 137439084544 := by
  obtain ⟨h1, h2, h3⟩ := h
  have hv := valI_bounds f h1
  have hv0 := valI_bounds f0 hd
  rw [h2] at hv
  have hT : (0 : Int) < 10 ^ f0.length := Int.pow_pos (by omega)
  have h2j : (2 : Int) ^ j ≤ 131072 := by
    have := Nat.pow_le_pow_right (n := 2) (by omega) hj
    have e : ((2 ^ j : Nat) : Int) ≤ ((2 ^ 17 : Nat) : Int) := by omega
    simpa using e
  have h2p : (0 : Int) < 2 ^ j := Int.pow_pos (by omega)
  generalize (10 : Int) ^ f0.length = T at *
  generalize (2 : Int) ^ j = J at *
  have a1 : n * T ≤ 1048576 * T := Int.mul_le_mul_of_nonneg_right hn.2 (by omega)
  have a0 : 0 ≤ n * T := Int.mul_nonneg hn.1 (by omega)
  have a2 : J * (n * T + valI f0) ≤ 131072 * (n * T + valI f0) := Int.mul_le_mul_of_nonneg_right h2j (by omega)
  have a3 : 0 ≤ J * (n * T + valI f0) := Int.mul_nonneg (by omega) (by omega)
  constructor
  · refine Int.not_lt.1 fun hneg => ?_
    have : raw * T ≤ -1 * T := Int.mul_le_mul_of_nonneg_right (by omega) (by omega)
    omega
  · refine Int.not_lt.1 fun hbig => ?_
    have : 137439084545 * T ≤ raw * T := Int.mul_le_mul_of_nonneg_right (by omega) (by omega)
    omega
theorem Dbl.done {n : Int} {B : List UInt8} {f : List Int} {raw : Int} (h : Dbl n (nums B) 17 f raw) (hd : ∀ c ∈ B, isDig c) : raw = 131072 * n + ((valN B * 131072 / 10 ^ B.length : Nat) : Int) := by
  obtain ⟨h1, h2, h3⟩ := h
  have hv := valI_bounds f h1
  rw [h2] at hv
  have hl : (nums B).length = B.length := by simp [nums]
  rw [hl] at hv h3
  rw [valI_nums B hd] at h3
  have hT : (0 : Int) < 10 ^ B.length := Int.pow_pos (by omega)
  have e1 : (((valN B * 131072 / 10 ^ B.length : Nat)) : Int) = ((valN B : Int) * 131072) / 10 ^ B.length := by simp
  rw [e1]
  have e2 : raw = (raw * 10 ^ B.length + valI f) / 10 ^ B.length := by
    rw [Int.add_comm, Int.add_mul_ediv_right _ _ (by omega), Int.ediv_eq_zero_of_lt hv.1 hv.2]
    omega
  rw [e2, h3, Int.mul_add, show (2 : Int) ^ 17 * (n * 10 ^ B.length) = 131072 * n * 10 ^ B.length by rw [← Int.mul_assoc]; rfl, Int.add_comm, Int.add_mul_ediv_right _ _ (by omega)]
  rw [show (2 : Int) ^ 17 * (valN B : Int) = (valN B : Int) * 131072 by rw [Int.mul_comm]; rfl]
  omega

/-- The block g holds the bytes fs, and they may be written. -/
def Byts (w : World) (g : Nat) (fs : List Int) : Prop := (∀ i (h : i < fs.length), w.cell? ⟨g, i, none⟩ = some (.int .u8 fs[i])) ∧ ∀ i, i < fs.length → w.frozen? ⟨g, i, none⟩ = false
theorem Byts.set {w : World} {g : Nat} {fs : List Int} (h : Byts w g fs) (j : Nat) (u : Int) (hj : j < fs.length) : Byts (w.setCell ⟨g, j, none⟩ (.int .u8 u)) g (fs.set j u) := by
  refine ⟨fun i hi => ?_, fun i hi => ?_⟩
  · rw [List.length_set] at hi
    by_cases e : j = i
    · subst e
      rw [World.cell?_setCell_same _ _ _ (h.1 j hj)]
      simp
    · rw [World.cell?_setCell_other _ _ _ _ (by simp [e]), h.1 i hi]
      simp [e]
  · rw [List.length_set] at hi
    rw [World.frozen?_setCell]
    exact h.2 i hi
theorem Byts.drewN {w : World} {g : Nat} {fs : List Int} (h : Byts w g fs) (n : Nat) : Byts (w.drewN n) g fs := h
/-- What the bytes of a text become. -/
theorem Byts.new (w : World) (B : List UInt8) (cap : Nat) (e : TypeId) : Byts (w.drew.alloc (.cells (bytesRow ⟨B.toArray⟩ cap) e ((bytesRow ⟨B.toArray⟩ cap).size, (bytesRow ⟨B.toArray⟩ cap).size + 1))) w.heap.size (nums B) := by
  have hh : (w.drew.alloc (.cells (bytesRow ⟨B.toArray⟩ cap) e ((bytesRow ⟨B.toArray⟩ cap).size, (bytesRow ⟨B.toArray⟩ cap).size + 1))).heap[w.heap.size]? = some (.cells (bytesRow ⟨B.toArray⟩ cap) e ((bytesRow ⟨B.toArray⟩ cap).size, (bytesRow ⟨B.toArray⟩ cap).size + 1)) := heap_alloc_new w.drew _
  have hsz : B.length ≤ (bytesRow ⟨B.toArray⟩ cap).size := by simp [bytesRow]
  have hl : (nums B).length = B.length := by simp [nums]
  refine ⟨fun i hi => ?_, fun i hi => ?_⟩
  · rw [hl] at hi
    simp only [World.cell?, hh]
    simp only [bytesRow, nums]
    rw [if_neg (by decide), Array.getElem?_append_left (by simp; omega)]
    simp [hi]
  · rw [hl] at hi
    simp only [World.frozen?, hh]
    simp
    omega
theorem below_set {B : Nat} {w w1 : World} (h : Below B w w1) (hB : B ≤ w1.heap.size) (g i : Nat) (v : Value) (hg : B ≤ g) : Below B w (w1.setCell ⟨g, i, none⟩ v) := below_grown h (grownBy_set w1 g i v) hB hg
theorem dbl_set (f : List Int) (k : Nat) (hk : k < f.length) : (f.take (k + 1) ++ (dbl (f.drop (k + 1))).1).set k (48 + (2 * (f[k] - 48) + (dbl (f.drop (k + 1))).2) % 10) = f.take k ++ (dbl (f.drop k)).1 := by
  have e : f.drop k = f[k] :: f.drop (k + 1) := List.drop_eq_getElem_cons hk
  rw [e]
  simp only [dbl]
  rw [List.take_succ_eq_append_getElem hk, List.append_assoc, List.set_append_right _ _ (by simp; omega)]
  simp [Nat.min_eq_left (Nat.le_of_lt hk)]
theorem dbl_carry (f : List Int) (k : Nat) (hk : k < f.length) : (dbl (f.drop k)).2 = (2 * (f[k] - 48) + (dbl (f.drop (k + 1))).2) / 10 := by
  have e : f.drop k = f[k] :: f.drop (k + 1) := List.drop_eq_getElem_cons hk
  rw [e]
  rfl
theorem head_nw (A : List UInt8) (hA : ∀ c ∈ A, isDig c) (hk : A ≠ []) : ∃ c0, A[0]? = some c0 ∧ c0 ≠ 45 := by
  match A, hk with
  | c :: l, _ => exact ⟨c, rfl, (dig_ne (hA c (by simp))).1⟩
theorem head_np (A B : List UInt8) (hA : ∀ c ∈ A, isDig c) : ∃ c0, (A ++ 46 :: B)[0]? = some c0 ∧ c0 ≠ 45 := by
  match A with
  | [] => exact ⟨46, rfl, by decide⟩
  | c :: l => exact ⟨c, rfl, (dig_ne (hA c (by simp))).1⟩
end Go.Proofs.Ytgoldmohmjjngaa
