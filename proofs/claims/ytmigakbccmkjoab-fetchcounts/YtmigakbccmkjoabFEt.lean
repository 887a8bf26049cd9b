/-
  Primitives: an array's place by its number; which vertices two primitives have in common; the numbers of a row of numbers. What the dump lacks is left out.
-/
import Derived.Test.YtmigakbccmkjoabFEo
import Derived.Test.YtmigakbccmkjoabNum
import Derived.BigQuiet
namespace Go.Proofs.Ytmigakbccmkjoab
open Go.RowKit
set_option linter.unusedVariables false
set_option linter.unusedSimpArgs false

theorem ix3 (a0 a1 a2 : Int) (k : Nat) (hk : k < 3) (w : World) : (Instr.index 33 (.agg #[.int .i64 a0, .int .i64 a1, .int .i64 a2]) (.int .i64 (k : Int))).run Try.prog w = .ok (.int .i64 (if k = 0 then a0 else if k = 1 then a1 else a2)) w := by
  rcases (by omega : k = 0 ∨ k = 1 ∨ k = 2) with rfl | rfl | rfl <;> kernel_rfl
def pick7 (m a0 a1 a2 a3 a4 a5 a6 : Int) : Int := if m = 0 then a0 else if m = 1 then a1 else if m = 2 then a2 else if m = 3 then a3 else if m = 4 then a4 else if m = 5 then a5 else a6
theorem ix7 (m a0 a1 a2 a3 a4 a5 a6 : Int) (hm : modB m = true) (w : World) : (Instr.index 32 (.agg #[.int .i64 a0, .int .i64 a1, .int .i64 a2, .int .i64 a3, .int .i64 a4, .int .i64 a5, .int .i64 a6]) (.int .i64 m)).run Try.prog w = .ok (.int .i64 (pick7 m a0 a1 a2 a3 a4 a5 a6)) w := by
  rcases mod_cases hm with rfl | rfl | rfl | rfl | rfl | rfl | rfl <;> kernel_rfl

/-- How many of b's first j vertices are x; how many vertices of a's first i are b's. -/
def innN (x : Int) (b : Nat → Int) : Nat → Int
  | 0 => 0
  | j + 1 => innN x b j + (if x = b (j + 1) then 1 else 0)
def outN (a b : Nat → Int) : Nat → Int
  | 0 => 0
  | i + 1 => outN a b i + innN (a (i + 1)) b 3
theorem innN_bd (x : Int) (b : Nat → Int) (j : Nat) : 0 ≤ innN x b j ∧ innN x b j ≤ j := by
  induction j with
  | zero => simp [innN]
  | succ j ih =>
    unfold innN
    split <;> omega
theorem outN_bd (a b : Nat → Int) (i : Nat) : 0 ≤ outN a b i ∧ outN a b i ≤ 3 * i := by
  induction i with
  | zero => simp [outN]
  | succ i ih =>
    have := innN_bd (a (i + 1)) b 3
    unfold outN
    omega

set_option maxRecDepth 10000 in
set_option maxHeartbeats 2000000 in
theorem shared_any (a b : Nat → Int) (w : World) :
    Calls Try.prog 8 #[.agg #[.int .i64 (a 0), .int .i64 (a 1), .int .i64 (a 2), .int .i64 (a 3)], .agg #[.int .i64 (b 0), .int .i64 (b 1), .int .i64 (b 2), .int .i64 (b 3)]] w fun e w' => e = .returned (.int .i64 (outN a b 3)) ∧ Ext w w' := by
  have hix := fun a0 a1 a2 (k : Nat) (hk : k < 3) w => ix3 a0 a1 a2 k hk w
  have HIX := hide hix
  clear hix
  have hX := ((Ext.refl w).alloc (.cells #[.int .i64 (a 0), .int .i64 (a 1), .int .i64 (a 2), .int .i64 (a 3)] 35)).alloc (.cells #[.int .i64 (b 0), .int .i64 (b 1), .int .i64 (b 2), .int .i64 (b 3)] 35)
  have hB : Blk ((w.alloc (.cells #[.int .i64 (a 0), .int .i64 (a 1), .int .i64 (a 2), .int .i64 (a 3)] 35)).alloc (.cells #[.int .i64 (b 0), .int .i64 (b 1), .int .i64 (b 2), .int .i64 (b 3)] 35)) (w.heap.size + 1) #[.int .i64 (b 0), .int .i64 (b 1), .int .i64 (b 2), .int .i64 (b 3)] 35 := Blk.at (by simp)
  have H0 := hide (And.intro hX hB)
  clear hX hB
  go_enter Try.func8, Try.ntmps8
  go_wp2_with fail
  obtain ⟨W0, hW0⟩ : ∃ W0, ((w.alloc (.cells #[.int .i64 (a 0), .int .i64 (a 1), .int .i64 (a 2), .int .i64 (a 3)] 35)).alloc (.cells #[.int .i64 (b 0), .int .i64 (b 1), .int .i64 (b 2), .int .i64 (b 3)] 35)) = W0 := ⟨_, rfl⟩
  rw [hW0] at H0 ⊢
  clear hW0
  have b1 : W0.cell? ⟨w.heap.size + 1, 1, none⟩ = some (.int .i64 (b 1)) := (unhide H0).2.cell rfl
  have b2 : W0.cell? ⟨w.heap.size + 1, 2, none⟩ = some (.int .i64 (b 2)) := (unhide H0).2.cell rfl
  have b3 : W0.cell? ⟨w.heap.size + 1, 3, none⟩ = some (.int .i64 (b 3)) := (unhide H0).2.cell rfl
  go_loopw [5, 12] (fun nv iv wr => ∃ i : Nat, i ≤ 3 ∧ iv = .int .i64 (i : Int) ∧ nv = .int .i64 (outN a b i) ∧ wr = W0) (fun _ iv _ => 3 - (intOf iv).toNat)
  case atStart => exact ⟨0, by omega, rfl, rfl, rfl⟩
  case round =>
    obtain ⟨i, hi, rfl, rfl, hwr⟩ := hrel
    obtain rfl := hwr.symm
    have ho := outN_bd a b i
    by_cases hlt : i < 3
    · have hlt2 : (i : Int) < 3 := by omega
      have q := unhide HIX (a 1) (a 2) (a 3) i hlt
      have hx : (if i = 0 then a 1 else if i = 1 then a 2 else a 3) = a (i + 1) := by
        rcases (by omega : i = 0 ∨ i = 1 ∨ i = 2) with rfl | rfl | rfl <;> rfl
      rw [hx] at q
      have HO := hide (show outN a b (i + 1) = outN a b i + innN (a (i + 1)) b 3 from rfl)
      generalize a (i + 1) = x at *
      generalize outN a b i = o at *
      clear hx
      go_wp2_with fail
      go_loopw [5, 17] (fun nv jv wr => ∃ j : Nat, j ≤ 3 ∧ jv = .int .i64 (j : Int) ∧ nv = .int .i64 (o + innN x b j) ∧ wr = W0) (fun _ jv _ => 3 - (intOf jv).toNat)
      case atStart => exact ⟨0, by omega, rfl, by simp [innN], rfl⟩
      case round =>
        obtain ⟨j, hj, rfl, rfl, hwr⟩ := hrel
        obtain rfl := hwr.symm
        have hn := innN_bd x b j
        by_cases hjt : j < 3
        · have hjt2 : (j : Int) < 3 := by omega
          have r := unhide HIX (b 1) (b 2) (b 3) j hjt
          have hy : (if j = 0 then b 1 else if j = 1 then b 2 else b 3) = b (j + 1) := by
            rcases (by omega : j = 0 ∨ j = 1 ∨ j = 2) with rfl | rfl | rfl <;> rfl
          rw [hy] at r
          have HI := hide (show innN x b (j + 1) = innN x b j + (if x = b (j + 1) then 1 else 0) from rfl)
          generalize b (j + 1) = y at *
          generalize innN x b j = t at *
          clear hy
          by_cases hxy : x = y
          · have d : (x == y) = true := by simpa using hxy
            rw [if_pos hxy] at HI
            clear hxy
            go_wp2
            go_roundw
            case rel => exact ⟨j + 1, by omega, by push_cast; rfl, by rw [unhide HI]; congr 1; omega, trivial⟩
            case measure => simp [intOf]; omega
          · have d : (x == y) = false := by simpa using hxy
            rw [if_neg hxy] at HI
            clear hxy
            go_wp2
            go_roundw
            case rel => exact ⟨j + 1, by omega, by push_cast; rfl, by rw [unhide HI]; congr 1; omega, trivial⟩
            case measure => simp [intOf]; omega
        · obtain rfl : j = 3 := by omega
          rw [show ((3 : Nat) : Int) = 3 from rfl]
          go_wp2
          go_roundw
          case rel => exact ⟨i + 1, by omega, by push_cast; rfl, by rw [unhide HO], trivial⟩
          case measure => simp [intOf]; omega
    · obtain rfl : i = 3 := by omega
      rw [show ((3 : Nat) : Int) = 3 from rfl]
      go_wp2
      go_ret
      exact ⟨rfl, (unhide H0).1⟩

/-- The numbers from 0 on. -/
def upto (n : Nat) : List Int := (List.range n).map (fun (i : Nat) => (i : Int))
theorem upto_len (n : Nat) : (upto n).length = n := by simp [upto]
theorem upto_get (n i : Nat) (h : i < n) : (upto n).getD i 0 = (i : Int) := by simp [upto, h]
theorem upto_set (n k : Nat) (h : k < n) : (upto k ++ List.replicate (n - k) 0).set k (k : Int) = upto (k + 1) ++ List.replicate (n - (k + 1)) 0 := by
  have h1 := set_mid (upto k) (n - k) (k : Int) (by omega)
  rw [upto_len] at h1
  rw [h1, show n - k - 1 = n - (k + 1) by omega]
  simp [upto, List.range_succ]
/-- A primitive of the numbers from 0 on. -/
theorem prm_upto (m : Int) (hm : modB m = true) (n k : Nat) (hk : (k : Int) < shpN m n) : prmF m (upto n) k 0 = (shpC m n : Int) ∧ ∀ j, j < 3 → prmF m (upto n) k (j + 1) = if j < shpC m n then shpP m n k j else 0 := by
  refine ⟨by unfold prmF prmK; rw [if_pos rfl, upto_len], fun j hj => ?_⟩
  unfold prmF prmK
  rw [if_neg (by omega), Nat.add_sub_cancel, upto_len]
  by_cases h : j < shpC m n
  · rw [if_pos h, if_pos h]
    obtain ⟨h0, h1⟩ := shpP_in m hm n k j hk h
    rw [upto_get n _ (by omega)]
    omega
  · rw [if_neg h, if_neg h]
theorem prm_share (m : Int) (hm : m = 5 ∨ m = 6) (n k : Nat) (h0 : 0 < k) (hk : (k : Int) < shpN m n) : outN (prmF m (upto n) k) (prmF m (upto n) (k - 1)) 3 = 2 := by
  have hmb : modB m = true := by rcases hm with rfl | rfl <;> rfl
  obtain ⟨_, a⟩ := prm_upto m hmb n k hk
  obtain ⟨_, b⟩ := prm_upto m hmb n (k - 1) (by omega)
  have a0 := a 0 (by omega)
  have a1 := a 1 (by omega)
  have a2 := a 2 (by omega)
  have b0 := b 0 (by omega)
  have b1 := b 1 (by omega)
  have b2 := b 2 (by omega)
  rcases hm with rfl | rfl
  · have hc : shpC 5 n = 3 := rfl
    rw [hc] at a0 a1 a2 b0 b1 b2
    rw [if_pos (by omega)] at a0 a1 a2 b0 b1 b2
    simp only [outN, innN, Nat.zero_add, Nat.reduceAdd] at *
    rw [a0, a1, a2, b0, b1, b2]
    by_cases h2 : k % 2 = 0
    · have e : shpP 5 n k = fun j => if j = 0 then (k : Int) else if j = 1 then (k : Int) + 1 else (k : Int) + 2 := by
        show (if k % 2 = 0 then _ else _) = _
        rw [if_pos h2]
      have e' : shpP 5 n (k - 1) = fun j => if j = 0 then ((k - 1 : Nat) : Int) + 1 else if j = 1 then ((k - 1 : Nat) : Int) else ((k - 1 : Nat) : Int) + 2 := by
        show (if (k - 1) % 2 = 0 then _ else _) = _
        rw [if_neg (by omega)]
      rw [e, e']
      simp
      repeat first | rw [if_pos (by omega)] | rw [if_neg (by omega)]
      rfl
    · have e : shpP 5 n k = fun j => if j = 0 then (k : Int) + 1 else if j = 1 then (k : Int) else (k : Int) + 2 := by
        show (if k % 2 = 0 then _ else _) = _
        rw [if_neg h2]
      have e' : shpP 5 n (k - 1) = fun j => if j = 0 then ((k - 1 : Nat) : Int) else if j = 1 then ((k - 1 : Nat) : Int) + 1 else ((k - 1 : Nat) : Int) + 2 := by
        show (if (k - 1) % 2 = 0 then _ else _) = _
        rw [if_pos (by omega)]
      rw [e, e']
      simp
      repeat first | rw [if_pos (by omega)] | rw [if_neg (by omega)]
      rfl
  · have hc : shpC 6 n = 3 := rfl
    rw [hc] at a0 a1 a2 b0 b1 b2
    rw [if_pos (by omega)] at a0 a1 a2 b0 b1 b2
    simp only [outN, innN, Nat.zero_add, Nat.reduceAdd] at *
    rw [a0, a1, a2, b0, b1, b2]
    have e : ∀ q : Nat, shpP 6 n q = fun j => if j = 0 then (0 : Int) else if j = 1 then (q : Int) + 1 else (q : Int) + 2 := fun q => rfl
    rw [e, e]
    simp
    repeat first | rw [if_pos (by omega)] | rw [if_neg (by omega)]
    rfl
end Go.Proofs.Ytmigakbccmkjoab
