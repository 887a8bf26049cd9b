/-
  Corners, and how rows of them are cut by distances: plain functions. Nothing here speaks of the program.
-/
import Derived.Test.YtbhdloanlagddaaVA
namespace Go.Proofs.Ytbhdloanlagddaa
open Go.RowKit
set_option linter.unusedVariables false
set_option linter.unusedSimpArgs false

/-- A corner: where it lies, its size, what it carries. -/
structure Vt where
  p : Nat → Int
  s : Int
  vs : List (Nat → Int)
def zVt : Vt := ⟨nul, 0, []⟩
/-- A window. -/
structure Vw where
  X : Int
  Y : Int
  W : Int
  H : Int
  Nr : Int
  Fr : Int
/-- A corner in the window. -/
structure Wn where
  x : Int
  y : Int
  z : Int
  w : Int
  s : Int
  vs : List (Nat → Int)
def zWn : Wn := ⟨0, 0, 0, 0, 0, []⟩
/-- A corner's distances. -/
def clD (p : Nat → Int) (n : Int) : Int :=
  if n = 0 then subI (p 3) 1 else if n = 1 then addI (p 3) (p 0) else if n = 2 then subI (p 3) (p 0) else if n = 3 then addI (p 3) (p 1) else if n = 4 then subI (p 3) (p 1) else if n = 5 then addI (p 3) (p 2) else if n = 6 then subI (p 3) (p 2) else 0
def clE (n : Int) : Int := if 0 ≤ n ∧ n ≤ 6 then 0 else 2
def clI (p : Nat → Int) (n : Int) : Bool := decide (0 ≤ clD p n)
def clT (p q : Nat → Int) (n : Int) : Int := divI (clD p n) (subI (clD p n) (clD q n))
def mxI (a b t : Int) : Int := addI a (mulI (subI b a) t)
def clM (a b : Nat → Int) (t : Int) : Nat → Int := cut 4 (fun i => addI (a i) (mulI (subI (b i) (a i)) t))
/-- What is carried between two corners, as far as k. -/
def clV (a b : List (Nat → Int)) (t : Int) (k : Nat) : List (Nat → Int) := (List.range k).map fun i => clM (a.getD i nul) (b.getD i nul) t
/-- The corner between two. -/
def clB (p q : Vt) (n : Int) : Vt := ⟨clM p.p q.p (clT p.p q.p n), mxI p.s q.s (clT p.p q.p n), clV p.vs q.vs (clT p.p q.p n) p.vs.length⟩
/-- What one way of a row leaves. -/
def clS (n : Int) (p q : Vt) : List Vt := if clI p.p n = true then (if clI q.p n = true then [q] else [clB p q n]) else if clI q.p n = true then [clB q p n, q] else []
def clP (L : List Vt) (j : Nat) : Vt := L.getD (if j = 0 then L.length - 1 else j - 1) zVt
def clR (L : List Vt) (n : Int) (j : Nat) : List Vt := (List.range j).flatMap fun i => clS n (clP L i) (L.getD i zVt)
def clC (L : List Vt) (n : Int) : List Vt := clR L n L.length
def clCs (L : List Vt) : Nat → List Vt
  | 0 => L
  | n + 1 => clC (clCs L n) (n : Int)
def clA (L : List Vt) : Bool := L.all fun x => decide (x.vs.length = (L.getD 0 zVt).vs.length) && decide (x.vs.length ≤ 4)
def sideOk (n : Int) : Bool := decide (0 ≤ n) && decide (n ≤ 64)
def depthOk (z : Int) : Bool := decide (0 ≤ z) && decide (z ≤ 65536)
def vwOk (v : Vw) : Bool := decide (0 ≤ v.X ∧ v.X ≤ 64 ∧ 0 ≤ v.W ∧ v.W ≤ 64 ∧ v.X + v.W ≤ 64 ∧ 0 ≤ v.Y ∧ v.Y ≤ 64 ∧ 0 ≤ v.H ∧ v.H ≤ 64 ∧ v.Y + v.H ≤ 64 ∧ 0 ≤ v.Nr ∧ v.Nr ≤ 65536 ∧ 0 ≤ v.Fr ∧ v.Fr ≤ 65536)
def shrI (a w : Int) : Int := clampI (divI a w) (-65536) 65536 + 65536
def plcI (f n s : Int) : Int := 256 * f + s * n / 512
def zI21 (nr fr s : Int) : Int := addI nr (mulI (subI fr nr) (s / 2))
/-- A corner, laid in the window. -/
def layW (v : Vw) (p : Vt) : Wn := ⟨plcI v.X v.W (shrI (p.p 0) (p.p 3)), plcI v.Y v.H (shrI (p.p 1) (p.p 3)), zI21 v.Nr v.Fr (shrI (p.p 2) (p.p 3)), p.p 3, p.s, p.vs⟩
def allIn (L : List Vt) (n : Int) : Bool := L.all fun x => clI x.p n
/-- The triangles of a row, as far as k. -/
def fanK (v : Vw) (L : List Vt) (k : Nat) : List (Wn × Wn × Wn) := (List.range k).map fun i => (layW v (L.getD 0 zVt), layW v (L.getD (i + 1) zVt), layW v (L.getD (i + 2) zVt))
def triP (v : Vw) (L : List Vt) : List (Wn × Wn × Wn) := if allIn (clCs L 7) 0 = true then fanK v (clCs L 7) ((clCs L 7).length - 2) else []
def wayP (a b : Vt) (n : Int) : Option (Vt × Vt) := if clI a.p n = true then (if clI b.p n = true then some (a, b) else some (a, clB a b n)) else if clI b.p n = true then some (clB b a n, b) else none
def waysP (a b : Vt) : Nat → Option (Vt × Vt)
  | 0 => some (a, b)
  | n + 1 => (waysP a b n).bind fun x => wayP x.1 x.2 (n : Int)
def lineP (v : Vw) (a b : Vt) : List Wn := match waysP a b 7 with
  | none => []
  | some x => if clI x.1.p 0 = true ∧ clI x.2.p 0 = true then [layW v x.1, layW v x.2] else []
def inTo (p : Nat → Int) (k : Nat) : Bool := (List.range k).all fun n => clI p (n : Int)
def pointP (v : Vw) (a : Vt) : List Wn := if inTo a.p 7 = true then [layW v a] else []
def areaI (a b c : Int × Int) : Int := (b.1 - a.1) * (c.2 - a.2) - (c.1 - a.1) * (b.2 - a.2)

/-- Numbers of 32 bits all through. -/
def Vt32 (x : Vt) : Prop := (∀ i, I32 (x.p i)) ∧ I32 x.s ∧ ∀ c ∈ x.vs, ∀ i, I32 (c i)
theorem clD_i32 {p : Nat → Int} (n : Int) : I32 (clD p n) := by
  unfold clD
  split; exact subI_i32 _ _
  split; exact addI_i32 _ _
  split; exact subI_i32 _ _
  split; exact addI_i32 _ _
  split; exact subI_i32 _ _
  split; exact addI_i32 _ _
  split; exact subI_i32 _ _
  unfold I32; omega
theorem clT_i32 (p q : Nat → Int) (n : Int) : I32 (clT p q n) := divI_i32 _ _
theorem clM_i32 (a b : Nat → Int) (t : Int) (i : Nat) : I32 (clM a b t i) := cut_i32 (fun i => addI_i32 _ _) i
theorem clV_len (a b : List (Nat → Int)) (t : Int) (k : Nat) : (clV a b t k).length = k := by simp [clV]
theorem clV_succ (a b : List (Nat → Int)) (t : Int) (k : Nat) : clV a b t (k + 1) = clV a b t k ++ [clM (a.getD k nul) (b.getD k nul) t] := by simp [clV, List.range_succ]
theorem clV_zero (a b : List (Nat → Int)) (t : Int) : clV a b t 0 = [] := rfl
theorem clB_32 (p q : Vt) (n : Int) : Vt32 (clB p q n) := by
  refine ⟨fun i => clM_i32 _ _ _ i, addI_i32 _ _, fun c hc i => ?_⟩
  obtain ⟨k, _, rfl⟩ := List.mem_map.1 hc
  exact clM_i32 _ _ _ i
theorem clB_vs (p q : Vt) (n : Int) : (clB p q n).vs.length = p.vs.length := clV_len _ _ _ _
theorem getD_all {P : Vt → Prop} {L : List Vt} (h : ∀ x ∈ L, P x) (h0 : L ≠ []) (i : Nat) (hi : i < L.length) : P (L.getD i zVt) := by
  rw [show L.getD i zVt = L[i] by simp [hi]]
  exact h _ (List.getElem_mem hi)
theorem clP_mem {P : Vt → Prop} {L : List Vt} (h : ∀ x ∈ L, P x) (j : Nat) (hj : j < L.length) : P (clP L j) := by
  unfold clP
  have h0 : L ≠ [] := by intro e; rw [e] at hj; simp at hj
  split
  · exact getD_all h h0 _ (by omega)
  · exact getD_all h h0 _ (by omega)
theorem clS_all {P : Vt → Prop} {n : Int} {p q : Vt} (hp : P p) (hq : P q) (hB : ∀ p q, P p → P q → P (clB p q n)) : ∀ x ∈ clS n p q, P x := by
  intro x hx
  unfold clS at hx
  split at hx
  · split at hx
    · rw [List.mem_singleton] at hx; exact hx ▸ hq
    · rw [List.mem_singleton] at hx; exact hx ▸ hB _ _ hp hq
  · split at hx
    · simp only [List.mem_cons, List.not_mem_nil, or_false] at hx
      rcases hx with rfl | rfl
      · exact hB _ _ hq hp
      · exact hq
    · simp at hx
theorem clC_all {P : Vt → Prop} {n : Int} {L : List Vt} (h : ∀ x ∈ L, P x) (hB : ∀ p q, P p → P q → P (clB p q n)) : ∀ x ∈ clC L n, P x := by
  intro x hx
  unfold clC clR at hx
  obtain ⟨i, hi, hx⟩ := List.mem_flatMap.1 hx
  have hi' : i < L.length := by simpa using hi
  exact clS_all (clP_mem h i hi') (getD_all h (by intro e; rw [e] at hi'; simp at hi') i hi') hB x hx
theorem clCs_all {P : Vt → Prop} {L : List Vt} (h : ∀ x ∈ L, P x) (hB : ∀ n p q, P p → P q → P (clB p q n)) : ∀ k, ∀ x ∈ clCs L k, P x
  | 0 => h
  | k + 1 => clC_all (clCs_all h hB k) (hB _)
theorem clCs_32 {L : List Vt} (h : ∀ x ∈ L, Vt32 x) (k : Nat) : ∀ x ∈ clCs L k, Vt32 x := clCs_all h (fun n p q _ _ => clB_32 p q n) k
theorem clCs_vs {L : List Vt} {m : Nat} (h : ∀ x ∈ L, x.vs.length = m) (k : Nat) : ∀ x ∈ clCs L k, x.vs.length = m := clCs_all (P := fun x => x.vs.length = m) h (fun n p q hp _ => by rw [clB_vs]; exact hp) k
theorem clR_zero (L : List Vt) (n : Int) : clR L n 0 = [] := rfl
theorem clR_succ (L : List Vt) (n : Int) (j : Nat) : clR L n (j + 1) = clR L n j ++ clS n (clP L j) (L.getD j zVt) := by
  unfold clR
  rw [List.range_succ, List.flatMap_append]
  simp
theorem clP_succ (L : List Vt) (j : Nat) : clP L (j + 1) = L.getD j zVt := by unfold clP; simp
/-- How many corners a cut leaves at most. -/
def phi (n : Int) (x : Vt) : Nat := if clI x.p n = true then 0 else 1
theorem clS_len (n : Int) (p q : Vt) : 2 * (clS n p q).length + phi n q ≤ 3 + phi n p := by
  unfold clS phi
  split <;> split <;> simp
theorem clR_len (L : List Vt) (n : Int) (j : Nat) : 2 * (clR L n j).length + phi n (clP L j) ≤ 3 * j + phi n (clP L 0) := by
  induction j with
  | zero => simp [clR_zero]
  | succ j ih =>
    have h := clS_len n (clP L j) (L.getD j zVt)
    rw [clR_succ, List.length_append, clP_succ]
    omega
theorem clC_len (L : List Vt) (n : Int) : 2 * (clC L n).length ≤ 3 * L.length := by
  have h := clR_len L n L.length
  unfold clC
  by_cases h0 : L.length = 0
  · rw [h0, clR_zero]; simp
  · have e : clP L L.length = clP L 0 := by unfold clP; rw [if_neg h0, if_pos rfl]
    rw [e] at h
    omega
theorem clCs_len3 {L : List Vt} (h : L.length = 3) : (clCs L 7).length ≤ 42 := by
  have h1 := clC_len L 0
  have h2 := clC_len (clC L 0) 1
  have h3 := clC_len (clC (clC L 0) 1) 2
  have h4 := clC_len (clC (clC (clC L 0) 1) 2) 3
  have h5 := clC_len (clC (clC (clC (clC L 0) 1) 2) 3) 4
  have h6 := clC_len (clC (clC (clC (clC (clC L 0) 1) 2) 3) 4) 5
  have h7 := clC_len (clC (clC (clC (clC (clC (clC L 0) 1) 2) 3) 4) 5) 6
  show (clC (clC (clC (clC (clC (clC (clC L 0) 1) 2) 3) 4) 5) 6).length ≤ 42
  omega
theorem clCs_lenK {L : List Vt} (h : L.length = 3) (k : Nat) (hk : k ≤ 7) : (clCs L k).length ≤ 42 := by
  have h1 := clC_len L 0
  have h2 := clC_len (clC L 0) 1
  have h3 := clC_len (clC (clC L 0) 1) 2
  have h4 := clC_len (clC (clC (clC L 0) 1) 2) 3
  have h5 := clC_len (clC (clC (clC (clC L 0) 1) 2) 3) 4
  have h6 := clC_len (clC (clC (clC (clC (clC L 0) 1) 2) 3) 4) 5
  have h7 := clC_len (clC (clC (clC (clC (clC (clC L 0) 1) 2) 3) 4) 5) 6
  rcases (by omega : k = 0 ∨ k = 1 ∨ k = 2 ∨ k = 3 ∨ k = 4 ∨ k = 5 ∨ k = 6 ∨ k = 7) with rfl | rfl | rfl | rfl | rfl | rfl | rfl | rfl
  · show L.length ≤ 42; omega
  · show (clC L 0).length ≤ 42; omega
  · show (clC (clC L 0) 1).length ≤ 42; omega
  · show (clC (clC (clC L 0) 1) 2).length ≤ 42; omega
  · show (clC (clC (clC (clC L 0) 1) 2) 3).length ≤ 42; omega
  · show (clC (clC (clC (clC (clC L 0) 1) 2) 3) 4).length ≤ 42; omega
  · show (clC (clC (clC (clC (clC (clC L 0) 1) 2) 3) 4) 5).length ≤ 42; omega
  · show (clC (clC (clC (clC (clC (clC (clC L 0) 1) 2) 3) 4) 5) 6).length ≤ 42; omega
/-- What lies within is not cut. -/
theorem clR_in {L : List Vt} {n : Int} (h : ∀ x ∈ L, clI x.p n = true) (j : Nat) (hj : j ≤ L.length) : clR L n j = L.take j := by
  induction j with
  | zero => simp [clR_zero]
  | succ j ih =>
    have hj' : j < L.length := by omega
    have h1 := clP_mem (P := fun x => clI x.p n = true) h j hj'
    have h2 := getD_all (P := fun x => clI x.p n = true) h (by intro e; rw [e] at hj'; simp at hj') j hj'
    rw [clR_succ, ih (by omega), List.take_succ_eq_append_getElem hj']
    unfold clS
    rw [if_pos h1, if_pos h2]
    simp [hj']
theorem clC_in {L : List Vt} {n : Int} (h : ∀ x ∈ L, clI x.p n = true) : clC L n = L := by
  unfold clC
  rw [clR_in h _ (Nat.le_refl _), List.take_length]
theorem clCs_in {L : List Vt} (h : ∀ x ∈ L, inTo x.p 7 = true) : clCs L 7 = L := by
  have g : ∀ k : Nat, k < 7 → ∀ x ∈ L, clI x.p (k : Int) = true := fun k hk x hx => by
    have := h x hx
    unfold inTo at this
    exact List.all_eq_true.1 this k (by simpa using hk)
  have k : ∀ k : Nat, k ≤ 7 → clCs L k = L := by
    intro k
    induction k with
    | zero => intro _; rfl
    | succ k ih => intro hk; show clC (clCs L k) (k : Int) = L; rw [ih (by omega), clC_in (g k (by omega))]
  exact k 7 (Nat.le_refl _)
theorem fanK_len (v : Vw) (L : List Vt) (k : Nat) : (fanK v L k).length = k := by simp [fanK]
theorem fanK_succ (v : Vw) (L : List Vt) (k : Nat) : fanK v L (k + 1) = fanK v L k ++ [(layW v (L.getD 0 zVt), layW v (L.getD (k + 1) zVt), layW v (L.getD (k + 2) zVt))] := by simp [fanK, List.range_succ]
theorem triP_len {v : Vw} {L : List Vt} (h : L.length = 3) : (triP v L).length ≤ 40 := by
  unfold triP
  have := clCs_len3 h
  split
  · rw [fanK_len]; omega
  · simp
theorem inTo_succ (p : Nat → Int) (k : Nat) : inTo p (k + 1) = (inTo p k && clI p (k : Int)) := by simp [inTo, List.range_succ]
theorem shrI_bd (a w : Int) : 0 ≤ shrI a w ∧ shrI a w ≤ 131072 := by unfold shrI clampI; omega
theorem plcI_bd {f n s : Int} (hn : 0 ≤ n ∧ n ≤ 64) (hs : 0 ≤ s ∧ s ≤ 131072) : 256 * f ≤ plcI f n s ∧ plcI f n s ≤ 256 * (f + n) ∧ 0 ≤ s * n ∧ s * n ≤ 8388608 := by
  have h1 : s * n ≤ 131072 * n := Int.mul_le_mul_of_nonneg_right hs.2 hn.1
  have h2 : 0 ≤ s * n := Int.mul_nonneg hs.1 hn.1
  unfold plcI
  omega
theorem zI_bd {nr fr s : Int} (hn : 0 ≤ nr ∧ nr ≤ 65536) (hf : 0 ≤ fr ∧ fr ≤ 65536) (hs : 0 ≤ s ∧ s ≤ 131072) : min nr fr ≤ zI21 nr fr s ∧ zI21 nr fr s ≤ max nr fr := by
  have e : subI fr nr = fr - nr := by unfold subI rawI clampI; omega
  obtain ⟨h, hh⟩ : ∃ h, s / 2 = h := ⟨_, rfl⟩
  have h0 : 0 ≤ h ∧ h ≤ 65536 := by omega
  have m1 : fr - nr ≥ 0 → 0 ≤ (fr - nr) * h ∧ (fr - nr) * h ≤ (fr - nr) * 65536 := fun g => ⟨Int.mul_nonneg g h0.1, Int.mul_le_mul_of_nonneg_left h0.2 g⟩
  have m2 : fr - nr ≤ 0 → (fr - nr) * 65536 ≤ (fr - nr) * h ∧ (fr - nr) * h ≤ 0 := fun g => ⟨Int.mul_le_mul_of_nonpos_left g h0.2, Int.mul_nonpos_of_nonpos_of_nonneg g h0.1⟩
  unfold zI21
  rw [e, hh]
  unfold addI mulI rawI clampI
  generalize (fr - nr) * h = q at *
  rcases Int.le_total 0 (fr - nr) with g | g
  · have := m1 g; omega
  · have := m2 g; omega
/-- The area, turned about. -/
theorem areaI_swap (a b c : Int × Int) : areaI b a c = -(areaI a b c) := by unfold areaI; grind
theorem areaI_turn (a b c : Int × Int) : areaI b c a = areaI a b c := by unfold areaI; grind
theorem prod_bd {x y : Int} (hx : -16384 ≤ x ∧ x ≤ 16384) (hy : -16384 ≤ y ∧ y ≤ 16384) : -268435456 ≤ x * y ∧ x * y ≤ 268435456 := by
  have h := Int.mul_le_mul (a := (x.natAbs : Int)) (c := 16384) (b := (y.natAbs : Int)) (d := 16384) (by omega) (by omega) (by omega) (by omega)
  have e : ((x * y).natAbs : Int) = (x.natAbs : Int) * (y.natAbs : Int) := by rw [Int.natAbs_mul]; push_cast; rfl
  omega
end Go.Proofs.Ytbhdloanlagddaa
