/- Several texts in one. -/
import Derived.Test.YtfoffnbkfnbglaaCFw
import Derived.Test.YtfoffnbkfnbglaaCW
import Derived.Deep.OwnRows
/-
  Codes that may be: what follows for their instructions.
-/
namespace Go.Proofs.Ytfoffnbkfnbglaa
open Go.RowKit
set_option linter.unusedVariables false
set_option linter.unusedSimpArgs false

theorem inB_iff (x n : Int) : inB x n = true ↔ 0 ≤ x ∧ x < n := by simp [inB]
theorem may_regs {C : Cod} (h : mayP C = true) : C.ins.length ≤ 4096 ∧ 0 ≤ C.regs ∧ C.regs ≤ 1024 := by
  simp only [mayP, Bool.and_eq_true, decide_eq_true_eq] at h
  refine ⟨h.2.1, ?_⟩
  have h1 := h.1
  unfold headB at h1
  split at h1
  · simp only [Bool.and_eq_true, inB_iff] at h1
    omega
  · split at h1
    · simp only [Bool.and_eq_true, inB_iff] at h1
      omega
    · cases h1
theorem may_ins {C : Cod} (h : mayP C = true) (k : Nat) (hk : k < C.ins.length) : (∀ r ∈ readsP C.ins[k], 0 ≤ r ∧ r < C.regs) ∧ (wrB (C.ins[k] 0) = true → 0 ≤ writI C.ins[k] ∧ writI C.ins[k] < C.regs) ∧ ((C.ins[k] 0 = 10 ∨ C.ins[k] 0 = 11) → (k : Int) < C.ins[k] 5 ∧ C.ins[k] 5 ≤ (C.ins.length : Int)) := by
  simp only [mayP, Bool.and_eq_true] at h
  have h2 := mayTo_at h.2.2 hk
  rw [show C.ins.getD k zI = C.ins[k] by simp [hk]] at h2
  generalize C.ins[k] = I at *
  simp only [insB, Bool.and_eq_true] at h2
  obtain ⟨h3, h4, h5⟩ := h2
  simp only [rgsB, Bool.and_eq_true, List.all_eq_true, Bool.or_eq_true] at h4
  refine ⟨fun r hr => (inB_iff _ _).1 (h4.1 r hr), fun hw => ?_, fun hj => ?_⟩
  · rcases h4.2 with h6 | h6
    · rw [hw] at h6; cases h6
    · exact (inB_iff _ _).1 h6
  · unfold fldB at h5
    rw [if_neg (by omega), if_neg (by omega), if_neg (by omega), if_neg (by omega), if_neg (by omega), if_neg (by omega), if_neg (by omega), if_pos hj] at h5
    simpa using h5
/-- What few answers, as a code that is read. -/
theorem few_ir {w w' : World} {C : Cod} {am : Option Addr} {cm : Nat} (h : OI w' w.heap.size (.slice am ((fewC C).ins.length + 1) cm) ((fewC C).ins ++ [i77])) : IR w' (.slice am (fewC C).ins.length cm) (fewC C).ins := by
  have h1 := h.ir
  have h2 := h1.take (fewC C).ins.length (by simp)
  simpa using h2
theorem few_ok {C : Cod} (h : ∀ I ∈ C.ins, OkI I) : ∀ I ∈ (fewC C).ins, OkI I := fun I hI => h I (List.mem_of_mem_take hI)
end Go.Proofs.Ytfoffnbkfnbglaa

/-
  What can be come to, plainly; rows of truths in a block.
-/
namespace Go.Proofs.Ytfoffnbkfnbglaa
open Go.RowKit
set_option linter.unusedVariables false
set_option linter.unusedSimpArgs false

theorem markL_append (r : List Bool) (a b : List Int) : markL r (a ++ b) = markL (markL r a) b := by
  induction a generalizing r with
  | nil => rfl
  | cons x t ih => exact ih _
theorem markL_take (r : List Bool) (xs : List Int) (j : Nat) (h : j < xs.length) : markL r (xs.take (j + 1)) = (markL r (xs.take j)).set xs[j].toNat true := by
  rw [List.take_succ_eq_append_getElem h, markL_append]
  rfl
theorem set_true_at (r : List Bool) (x i : Nat) (h : r.getD i false = true) : (r.set x true).getD i false = true := by
  by_cases e : x = i
  · subst e
    have hl : x < r.length := by
      rcases Nat.lt_or_ge x r.length with h1 | h1
      · exact h1
      · rw [List.getD_eq_getElem?_getD, List.getElem?_eq_none h1] at h; cases h
    simp [hl]
  · simpa [List.getD_eq_getElem?_getD, List.getElem?_set, e] using h
theorem set_other_at (r : List Bool) (x i : Nat) (h : x ≠ i) : (r.set x true).getD i false = r.getD i false := by
  simp [List.getD_eq_getElem?_getD, List.getElem?_set, h]
theorem markL_mono (r : List Bool) (l : List Int) (i : Nat) (h : r.getD i false = true) : (markL r l).getD i false = true := by
  induction l generalizing r with
  | nil => exact h
  | cons x t ih => exact ih _ (set_true_at r _ i h)
theorem markL_other (r : List Bool) (l : List Int) (i : Nat) (h : ∀ x ∈ l, x.toNat ≠ i) : (markL r l).getD i false = r.getD i false := by
  induction l generalizing r with
  | nil => rfl
  | cons x t ih =>
    rw [markL, ih _ (fun y hy => h y (List.mem_cons_of_mem _ hy)), set_other_at _ _ _ (h x (by simp))]
theorem markL_in (r : List Bool) (l : List Int) (x : Int) (hx : x ∈ l) (hl : x.toNat < r.length) : (markL r l).getD x.toNat false = true := by
  induction l generalizing r with
  | nil => cases hx
  | cons y t ih =>
    rcases List.mem_cons.1 hx with rfl | h
    · exact markL_mono (r.set x.toNat true) t _ (by simp [hl])
    · exact ih (r.set y.toNat true) h (by simpa using hl)
theorem reachTo_mono (L : List (Nat → Int)) (i k m : Nat) (hm : k ≤ m) (h : (reachTo L k).getD i false = true) : (reachTo L m).getD i false = true := by
  induction hm with
  | refl => exact h
  | step _ ih =>
    rw [reachTo, stepR]
    split
    · exact markL_mono _ _ _ ih
    · exact ih
theorem reachTo_back (L : List (Nat → Int)) (i m : Nat) (hf : ∀ k, k < L.length → ∀ x ∈ nextP (L.getD k zI) k, (k : Int) < x) : ∀ d, i + d ≤ L.length → (reachTo L (i + d)).getD i false = true → (reachTo L i).getD i false = true
  | 0, _, h => h
  | d + 1, hd, h => by
    refine reachTo_back L i m hf d (by omega) ?_
    rw [show i + (d + 1) = (i + d) + 1 by omega, reachTo, stepR] at h
    split at h
    · rw [markL_other] at h
      · exact h
      · intro x hx e
        have := hf (i + d) (by omega) x hx
        omega
    · exact h
/-- Where a place that is come to leads is come to. -/
theorem reach_next (L : List (Nat → Int)) (hf : ∀ k, k < L.length → ∀ x ∈ nextP (L.getD k zI) k, (k : Int) < x ∧ x ≤ (L.length : Int)) (a : Nat) (ha : a < L.length) (h : (reachP L).getD a false = true) (x : Int) (hx : x ∈ nextP (L.getD a zI) a) : (reachP L).getD x.toNat false = true := by
  have h1 : (reachTo L a).getD a false = true := by
    refine reachTo_back L a 0 (fun k hk x hx => (hf k hk x hx).1) (L.length - a) (by omega) ?_
    rw [show a + (L.length - a) = L.length by omega]
    exact h
  refine reachTo_mono L _ (a + 1) _ ha ?_
  rw [reachTo, stepR, if_pos h1]
  have h2 := hf a ha x hx
  exact markL_in _ _ _ hx (by rw [reachTo_len]; omega)
theorem reach_start (L : List (Nat → Int)) : (reachP L).getD 0 false = true := reachTo_mono L 0 0 _ (Nat.zero_le _) (by simp [reachTo])
theorem may_next {C : Cod} (h : mayP C = true) (k : Nat) (hk : k < C.ins.length) : ∀ x ∈ nextP C.ins[k] k, (k : Int) < x ∧ x ≤ (C.ins.length : Int) := by
  obtain ⟨_, _, h3⟩ := may_ins h k hk
  intro x hx
  unfold nextP at hx
  split at hx
  · simp only [List.mem_singleton] at hx
    subst hx
    exact h3 (.inl (by assumption))
  · split at hx
    · simp only [List.mem_cons, List.not_mem_nil, or_false] at hx
      rcases hx with rfl | rfl
      · exact h3 (.inr (by assumption))
      · omega
    · split at hx
      · cases hx
      · simp only [List.mem_singleton] at hx
        subst hx
        omega
theorem may_nextD {C : Cod} (h : mayP C = true) : ∀ k, k < C.ins.length → ∀ x ∈ nextP (C.ins.getD k zI) k, (k : Int) < x ∧ x ≤ (C.ins.length : Int) := by
  intro k hk
  rw [show C.ins.getD k zI = C.ins[k] by simp [hk]]
  exact may_next h k hk

/-- The cells of a row of truths. -/
def bcells (r : List Bool) : Array Value := (r.map Value.bool).toArray
theorem bcells_set (r : List Bool) (i : Nat) : (bcells r).setIfInBounds i (.bool true) = bcells (r.set i true) := by
  simp [bcells, List.map_set]
theorem bcells_at {r : List Bool} {i : Nat} (h : i < r.length) : (bcells r)[i]? = some (.bool (r.getD i false)) := by
  simp [bcells, h]
theorem bcells_no (r : List Bool) : ∀ u ∈ (bcells r).toList, ∀ n, u ≠ .int .i64 n := by
  intro u hu n
  simp [bcells] at hu
  rcases hu with ⟨_, rfl⟩ | ⟨_, rfl⟩ <;> simp
theorem bcells_made (n : Nat) : madeCells #[.bool false] n = bcells (List.replicate n false) := by
  apply Array.ext'
  rw [bcells, madeCells]
  simp
  have e : (fun x : Nat => [Value.bool false][x % 1]?.getD default) = fun _ => Value.bool false := by
    funext x
    rw [Nat.mod_one]
    rfl
  rw [e, List.map_const', List.length_range]
end Go.Proofs.Ytfoffnbkfnbglaa

/-
  What can be come to: the walks of next and Reach.
-/
namespace Go.Proofs.Ytfoffnbkfnbglaa
open Go.RowKit
set_option linter.unusedVariables false
set_option linter.unusedSimpArgs false

set_option maxRecDepth 10000 in
set_option maxHeartbeats 2000000 in
theorem next_any (I : Nat → Int) (k : Nat) (hk : k ≤ 5000) (w : World) : Calls Try.prog 44 #[.agg (insA I), .int .i64 (k : Int)] w fun e w' => NewI w w' e (nextP I k) := by
  obtain ⟨c0, c1, c2, c3, c4, c5, c6, c7⟩ := cellI I w 39
  have E := hide (show nextP I k = if I 0 = 10 then [I 5] else if I 0 = 11 then [I 5, (k : Int) + 1] else if I 0 = 12 then [] else [(k : Int) + 1] from rfl)
  generalize nextP I k = y at *
  generalize I 0 = o at *
  generalize I 5 = a5 at *
  go_enter Try.func44, Try.ntmps44
  go_wp2
  all_goals
    go_ret
    have e := unhide E
    simp only [beq_iff_eq, beq_eq_false_iff_ne, ne_eq] at *
    repeat first | rw [if_pos (by omega)] at e | rw [if_neg (by omega)] at e
    subst e
    first
    | exact ⟨none, 0, rfl, Own.nil _ _ _ _, (Ext.refl w).alloc _⟩
    | exact NewI.of w _ [a5] (by simp)
    | exact NewI.of w _ [a5, (k : Int) + 1] (by simp)
    | exact NewI.of w _ [(k : Int) + 1] (by simp)

theorem infoBool : (Try.prog.info? 4).map (fun i => (i.zero, i.size, i.bytes)) = some (some (.bool false), 1, 1) := by kernel_rfl

set_option maxRecDepth 10000 in
set_option maxHeartbeats 4000000 in
theorem reach_bad (C : Cod) (v : Value) (w : World) (h : IR w v C.ins) (hm : mayP C = false) : Calls Try.prog 26 #[.agg #[.int .i64 (C).stage, v, .int .i64 (C).regs, .int .i64 (C).attr, .int .i64 (C).unif, .int .i64 (C).vary]] w fun e w' => e = .returned (.slice none 0 0) ∧ Ext w w' := by
  have HV := hide h
  obtain ⟨ao, ca, rfl, hn0, hlc, hcm, hat⟩ := h
  clear hat hn0
  have HB := hide (Blk.new w #[.int .i64 (C).stage, .slice ao C.ins.length ca, .int .i64 (C).regs, .int .i64 (C).attr, .int .i64 (C).unif, .int .i64 (C).vary] 26)
  have HX := hide ((Ext.refl w).alloc (.cells #[.int .i64 (C).stage, .slice ao C.ins.length ca, .int .i64 (C).regs, .int .i64 (C).attr, .int .i64 (C).unif, .int .i64 (C).vary] 26))
  go_enter Try.func26, Try.ntmps26
  go_wp2_with (first
    | refine wpList_load_row rfl 26 (.tmp 1) rfl w.heap.size rfl 26 #[.int .i64 (C).stage, .slice ao C.ins.length ca, .int .i64 (C).regs, .int .i64 (C).attr, .int .i64 (C).unif, .int .i64 (C).vary] (0, 0) _ (unhide HB) Try.underlying26 rfl size6 ?_
    | (go_at_call 9999))
  refine (may_any C _ _ ((unhide HV).ext (unhide HX))).mono ?_
  rintro e w1 ⟨rfl, hx1⟩
  have HX1 := hide ((unhide HX).trans hx1)
  rw [hm]
  go_wp2
  go_ret
  exact ⟨rfl, unhide HX1⟩

set_option maxRecDepth 10000 in
set_option maxHeartbeats 8000000 in
theorem reach_ok (C : Cod) (v : Value) (w : World) (h : IR w v C.ins) (hm : mayP C = true) : Calls Try.prog 26 #[.agg #[.int .i64 (C).stage, v, .int .i64 (C).regs, .int .i64 (C).attr, .int .i64 (C).unif, .int .i64 (C).vary]] w fun e w' => ∃ g, e = .returned (.slice (some ⟨g, 0, none⟩) (C.ins.length + 1) (C.ins.length + 1)) ∧ Blk w' g (bcells (reachP C.ins)) 4 ∧ w.heap.size ≤ g ∧ Ext w w' := by
  have HV := hide h
  obtain ⟨hl, _⟩ := may_regs hm
  have HN := hide (fun k hk => may_next hm k hk)
  obtain ⟨ao, ca, rfl, hn0, hlc, hcm, hat⟩ := h
  clear hat hn0
  have HB := hide (Blk.new w #[.int .i64 (C).stage, .slice ao C.ins.length ca, .int .i64 (C).regs, .int .i64 (C).attr, .int .i64 (C).unif, .int .i64 (C).vary] 26)
  have HX := hide ((Ext.refl w).alloc (.cells #[.int .i64 (C).stage, .slice ao C.ins.length ca, .int .i64 (C).regs, .int .i64 (C).attr, .int .i64 (C).unif, .int .i64 (C).vary] 26))
  have HM := hide hm
  clear hm
  go_enter Try.func26, Try.ntmps26
  go_wp2_with (first
    | refine wpList_load_row rfl 26 (.tmp 1) rfl w.heap.size rfl 26 #[.int .i64 (C).stage, .slice ao C.ins.length ca, .int .i64 (C).regs, .int .i64 (C).attr, .int .i64 (C).unif, .int .i64 (C).vary] (0, 0) _ (unhide HB) Try.underlying26 rfl size6 ?_
    | (go_at_call 9999))
  refine (may_any C _ _ ((unhide HV).ext (unhide HX))).mono ?_
  rintro e w1 ⟨rfl, hx1⟩
  have HB1 := hide ((unhide HB).ext hx1)
  have HX1 := hide ((unhide HX).trans hx1)
  rw [unhide HM]
  clear hx1 HB HX HM
  obtain ⟨i0, hi, hz0, hz1, hz2⟩ := info_all infoBool
  obtain ⟨z0, z1, z2, z3, z4, z5⟩ := cellC (unhide HB1)
  go_upto_region 4 with (first | (refine wpList_make_row _ rfl _ _ 61 rfl 4 i0 (.bool false) Try.underlying61 hi hz0 hz1 rfl .i64 .i64 (C.ins.length + 1) ?b1 ?b2 ?b3 ?b4 ?_))
  case b1 => go_num
  case b2 => go_num
  case b3 => rw [hz2]; omega
  case b4 => omega
  rw [bcells_made]
  have HB2 := hide ((unhide HB1).alloc (.cells (bcells (List.replicate (C.ins.length + 1) false)) 4))
  have HX2 := hide ((unhide HX1).alloc (.cells (bcells (List.replicate (C.ins.length + 1) false)) 4))
  have HC2 := hide (Blk.new w1 (bcells (List.replicate (C.ins.length + 1) false)) 4)
  have hg := (unhide HB1).lt
  have hxs := (unhide HX1).size
  generalize w1.alloc (.cells (bcells (List.replicate (C.ins.length + 1) false)) 4) = w2 at HB2 HX2 HC2 ⊢
  generalize w1.heap.size = g at *
  clear HB1 HX1 z0 z1 z2 z3 z4 z5 hi hz0 hz1 hz2
  have HB3 := hide ((unhide HB2).other (r := g) 0 (.bool true) (by omega))
  have HX3 := hide (extSet (i := 0) (v := .bool true) (unhide HX2) hxs)
  have HC3 := hide ((unhide HC2).set 0 (.bool true))
  rw [bcells_set] at HC3
  have c0 := (unhide HC2).cell (bcells_at (r := List.replicate (C.ins.length + 1) false) (i := 0) (by simp))
  have f0 := (unhide HC2).free 0
  go_upto_region 5 with fail
  generalize w2.setCell _ _ = w3 at HB3 HX3 HC3 ⊢
  clear c0 f0 HB2 HX2 HC2
  obtain ⟨z0, z1, z2, z3, z4, z5⟩ := cellC (unhide HB3)
  go_wp2
  clear z0 z1 z2 z3 z4 z5
  go_loopw [21] (fun iv wr => ∃ k : Nat, k ≤ C.ins.length ∧ iv = .int .i64 (k : Int) ∧ Blk wr g (bcells (reachTo C.ins k)) 4 ∧ Ext w wr) (fun iv _ => C.ins.length - (intOf iv).toNat)
  case atStart => exact ⟨0, Nat.zero_le _, rfl, unhide HC3, unhide HX3⟩
  case round =>
    clear HB3 HX3 HC3
    obtain ⟨k, hk, rfl, hb, hx⟩ := hrel
    have D := hide (And.intro hb hx)
    clear hb hx
    by_cases hlt : k < C.ins.length
    · have hkn : (k : Int) < (C.ins.length : Int) := by omega
      obtain ⟨_, _, e1, _, _, _, hat⟩ := (unhide HV).ext (unhide D).2
      have e1' := (Value.slice.inj e1).1
      subst e1'
      obtain ⟨b, off, rfl, hrg⟩ := hat k hlt
      have HRG := hide hrg
      have HNK := hide (unhide HN k hlt)
      have HRK := hide (show reachTo C.ins (k + 1) = stepR (reachTo C.ins k) C.ins[k] k by rw [reachTo]; simp [hlt])
      have HRL := hide (reachTo_len C.ins k)
      clear hrg hat e1
      generalize C.ins[k] = I at *
      obtain ⟨R2, hR2⟩ : ∃ R, reachTo C.ins (k + 1) = R := ⟨_, rfl⟩
      rw [hR2] at HRK
      have HR2 := hide hR2
      clear hR2
      generalize reachTo C.ins k = R at *
      go_upto_region 8 with (first
        | (refine wpList_load_mid rfl 39 (.tmp 24) rfl b (off + k * 16) rfl (insA I).toList _ (unhide HRG) Try.underlying39 rfl size16 ?_; rw [Array.toArray_toList])
        | refine wpList_storeLast rfl 39 (.tmp 5) (.tmp 25) rfl _ wr.heap.size rfl rfl (insA I) rfl 16 size16 rfl rfl (insA_one I) ?_)
      have HI4 := hide (Blk.new wr (insA I) 39)
      have D4 := hide (And.intro ((unhide D).1.alloc (.cells (insA I) 39)) ((unhide D).2.alloc (.cells (insA I) 39)))
      generalize wr.alloc (.cells (insA I) 39) = w4 at HI4 D4 ⊢
      generalize wr.heap.size = B4 at *
      have ck := (unhide D4).1.cell (bcells_at (r := R) (i := k) (by rw [unhide HRL]; omega))
      have ES : Hid (R2 = if R.getD k false then markL R (nextP I k) else R) := by rw [Hid, unhide HRK]; rfl
      clear D HRG HRK
      generalize R.getD k false = rk at *
      cases rk
      · have EK : Hid (R2 = R) := by rw [Hid, unhide ES]; rfl
        go_wp2
        go_roundw
        case rel => exact ⟨k + 1, by omega, by go_num, by rw [unhide HR2, unhide EK]; exact (unhide D4).1, (unhide D4).2⟩
        case measure => simp [intOf]; omega
      · have EK : Hid (R2 = markL R (nextP I k)) := by rw [Hid, unhide ES]; rfl
        clear ES
        go_wp2_with (first
          | refine wpList_load_row rfl 39 (.tmp 5) rfl B4 rfl 39 (insA I) (0, 0) _ (unhide HI4) Try.underlying39 rfl size16 ?_
          | (go_at_call 9999))
        refine (next_any I k (by omega) _).mono ?_
        rintro e w5 ⟨ao5, cap5, rfl, hown5, hx5⟩
        have D5 := hide (show Blk w5 g (bcells R) 4 ∧ Ext w w5 ∧ Row .i64 w5 (.slice ao5 (nextP I k).length cap5) (nextP I k) from ⟨(unhide D4).1.ext hx5, (unhide D4).2.trans hx5, hown5.row⟩)
        have hrl : (nextP I k).length ≤ 9223372036854775807 := by
          obtain ⟨_, _, _, _, h9, h10⟩ := hown5.row.shape
          unfold maxLen at h10
          omega
        clear hown5 hx5 D4 HI4 ck
        generalize nextP I k = xs at *
        go_wp2
        go_loopw [35] (fun iv wq => ∃ j : Nat, j ≤ xs.length ∧ iv = .int .i64 (j : Int) ∧ Blk wq g (bcells (markL R (xs.take j))) 4 ∧ Ext w wq ∧ Row .i64 wq (.slice ao5 xs.length cap5) xs) (fun iv _ => xs.length - (intOf iv).toNat)
        case atStart => exact ⟨0, Nat.zero_le _, rfl, unhide D5⟩
        case round =>
          clear D5
          obtain ⟨j, hj, rfl, hb, hx, hr⟩ := hrel
          have D := hide (And.intro hb (And.intro hx hr))
          clear hb hx hr
          by_cases hjt : j < xs.length
          · obtain ⟨b2, off2, ea, hc⟩ := (unhide D).2.2.at j hjt
            subst ea
            have c1 := hc j hjt
            obtain ⟨r0, r1⟩ := unhide HNK xs[j] (List.getElem_mem hjt)
            have HT := hide (markL_take R xs j hjt)
            have HML := hide (markL_len R (xs.take j))
            obtain ⟨R4, hR4⟩ : ∃ R4, markL R (xs.take (j + 1)) = R4 := ⟨_, rfl⟩
            rw [hR4] at HT
            have HR4 := hide hR4
            clear hR4
            generalize markL R (xs.take j) = R3 at *
            generalize xs[j] = x at *
            clear hc
            obtain ⟨y, rfl⟩ : ∃ y : Nat, x = (y : Int) := ⟨x.toNat, by omega⟩
            have cy := (unhide D).1.cell (bcells_at (r := R3) (i := y) (by rw [unhide HML, unhide HRL]; omega))
            have fy := (unhide D).1.free y
            have hyn : (y : Int) < (C.ins.length : Int) + 1 := by omega
            have D6 := hide (show Blk (wr.setCell ⟨g, y, none⟩ (.bool true)) g (bcells R4) 4 ∧ Ext w (wr.setCell ⟨g, y, none⟩ (.bool true)) ∧ Row .i64 (wr.setCell ⟨g, y, none⟩ (.bool true)) (.slice (some ⟨b2, off2, none⟩) xs.length cap5) xs from by
              refine ⟨?_, extSet (unhide D).2.1 hxs, (unhide D).2.2.grown (grownBy_set _ _ _ _) ((unhide D).1.no (bcells_no _))⟩
              rw [unhide HT, ← bcells_set, Int.toNat_natCast]
              exact (unhide D).1.set y _)
            go_upto_region 13 with fail
            generalize wr.setCell _ _ = w7 at D6 ⊢
            go_wp2
            go_roundw
            case rel => exact ⟨j + 1, by omega, by go_num, by rw [unhide HR4]; exact unhide D6⟩
            case measure => simp [intOf]; omega
          · obtain rfl : j = xs.length := by omega
            go_wp2
            go_roundw
            case rel =>
              have h1 := (unhide D).1
              rw [List.take_length, ← unhide EK, ← unhide HR2] at h1
              exact ⟨k + 1, by omega, by go_num, h1, (unhide D).2.1⟩
            case measure => simp [intOf]; omega
    · obtain rfl : k = C.ins.length := by omega
      go_wp2
      go_ret
      exact ⟨g, rfl, (unhide D).1, hxs, (unhide D).2⟩
end Go.Proofs.Ytfoffnbkfnbglaa

/-
  The document's Reach, of codes that may be.
-/
namespace Go.Proofs.Ytfoffnbkfnbglaa
open Go.RowKit
set_option linter.unusedVariables false
set_option linter.unusedSimpArgs false

set_option maxRecDepth 10000 in
set_option maxHeartbeats 4000000 in
theorem refReach_any (C : Cod) (v : Value) (w : World) (h : IR w v C.ins) (hm : mayP C = true) : Calls Try.prog 28 #[.agg #[.int .i64 (C).stage, v, .int .i64 (C).regs, .int .i64 (C).attr, .int .i64 (C).unif, .int .i64 (C).vary]] w fun e w' => ∃ g, e = .returned (.slice (some ⟨g, 0, none⟩) (C.ins.length + 1) (C.ins.length + 1)) ∧ Blk w' g (bcells (reachP C.ins)) 4 ∧ w.heap.size ≤ g ∧ Ext w w' := by
  have HV := hide h
  have hl := (may_regs hm).1
  have HN := hide (fun k hk => may_next hm k hk)
  obtain ⟨ao, ca, rfl, hn0, hlc, hcm, hat⟩ := h
  clear hat hn0
  have HB1 := hide (Blk.new w #[.int .i64 (C).stage, .slice ao C.ins.length ca, .int .i64 (C).regs, .int .i64 (C).attr, .int .i64 (C).unif, .int .i64 (C).vary] 26)
  have HX1 := hide ((Ext.refl w).alloc (.cells #[.int .i64 (C).stage, .slice ao C.ins.length ca, .int .i64 (C).regs, .int .i64 (C).attr, .int .i64 (C).unif, .int .i64 (C).vary] 26))
  clear hm
  obtain ⟨i0, hi, hz0, hz1, hz2⟩ := info_all infoBool
  obtain ⟨z0, z1, z2, z3, z4, z5⟩ := cellC (unhide HB1)
  go_enter Try.func28, Try.ntmps28
  go_upto_region 3 with (first | (refine wpList_make_row _ rfl _ _ 61 rfl 4 i0 (.bool false) Try.underlying61 hi hz0 hz1 rfl .i64 .i64 (C.ins.length + 1) ?b1 ?b2 ?b3 ?b4 ?_))
  case b1 => go_num
  case b2 => go_num
  case b3 => rw [hz2]; omega
  case b4 => omega
  rw [bcells_made]
  have HB2 := hide ((unhide HB1).alloc (.cells (bcells (List.replicate (C.ins.length + 1) false)) 4))
  have HX2 := hide ((unhide HX1).alloc (.cells (bcells (List.replicate (C.ins.length + 1) false)) 4))
  have HC2 : Hid (Blk ((w.alloc (.cells #[.int .i64 (C).stage, .slice ao C.ins.length ca, .int .i64 (C).regs, .int .i64 (C).attr, .int .i64 (C).unif, .int .i64 (C).vary] 26)).alloc (.cells (bcells (List.replicate (C.ins.length + 1) false)) 4)) (w.heap.size + 1) (bcells (List.replicate (C.ins.length + 1) false)) 4) := Blk.here (by simp)
  generalize (w.alloc (.cells #[.int .i64 (C).stage, .slice ao C.ins.length ca, .int .i64 (C).regs, .int .i64 (C).attr, .int .i64 (C).unif, .int .i64 (C).vary] 26)).alloc (.cells (bcells (List.replicate (C.ins.length + 1) false)) 4) = w2 at HB2 HX2 HC2 ⊢
  obtain ⟨g, hg⟩ : ∃ g, g = w.heap.size + 1 := ⟨_, rfl⟩
  rw [← hg] at HC2 ⊢
  have hxs : w.heap.size ≤ g := by omega
  have hgw : w.heap.size < g := by omega
  clear hg
  clear HB1 HX1 z0 z1 z2 z3 z4 z5 hi hz0 hz1 hz2
  have HB3 := hide ((unhide HB2).other (r := g) 0 (.bool true) (by omega))
  have HX3 := hide (extSet (i := 0) (v := .bool true) (unhide HX2) hxs)
  have HC3 := hide ((unhide HC2).set 0 (.bool true))
  rw [bcells_set] at HC3
  have c0 := (unhide HC2).cell (bcells_at (r := List.replicate (C.ins.length + 1) false) (i := 0) (by simp))
  have f0 := (unhide HC2).free 0
  go_upto_region 4 with fail
  generalize w2.setCell _ _ = w3 at HB3 HX3 HC3 ⊢
  clear c0 f0 HB2 HX2 HC2
  obtain ⟨z0, z1, z2, z3, z4, z5⟩ := cellC (unhide HB3)
  go_wp2
  clear z0 z1 z2 z3 z4 z5
  go_loopw [18] (fun iv wr => ∃ k : Nat, k ≤ C.ins.length ∧ iv = .int .i64 (k : Int) ∧ Blk wr g (bcells (reachTo C.ins k)) 4 ∧ Ext w wr) (fun iv _ => C.ins.length - (intOf iv).toNat)
  case atStart => exact ⟨0, Nat.zero_le _, rfl, unhide HC3, unhide HX3⟩
  case round =>
    clear HB3 HX3 HC3
    obtain ⟨k, hk, rfl, hb, hx⟩ := hrel
    have D := hide (And.intro hb hx)
    clear hb hx
    by_cases hlt : k < C.ins.length
    · have hkn : (k : Int) < (C.ins.length : Int) := by omega
      obtain ⟨_, _, e1, _, _, _, hat⟩ := (unhide HV).ext (unhide D).2
      have e1' := (Value.slice.inj e1).1
      subst e1'
      obtain ⟨b, off, rfl, hrg⟩ := hat k hlt
      have HRG := hide hrg
      have HNK := hide (unhide HN k hlt)
      have HRK := hide (show reachTo C.ins (k + 1) = stepR (reachTo C.ins k) C.ins[k] k by rw [reachTo]; simp [hlt])
      have HRL := hide (reachTo_len C.ins k)
      clear hrg hat e1
      generalize C.ins[k] = I at *
      obtain ⟨R2, hR2⟩ : ∃ R, reachTo C.ins (k + 1) = R := ⟨_, rfl⟩
      rw [hR2] at HRK
      have HR2 := hide hR2
      clear hR2
      generalize reachTo C.ins k = R at *
      go_upto_region 7 with (first
        | (refine wpList_load_mid rfl 39 (.tmp 21) rfl b (off + k * 16) rfl (insA I).toList _ (unhide HRG) Try.underlying39 rfl size16 ?_; rw [Array.toArray_toList])
        | refine wpList_storeLast rfl 39 (.tmp 6) (.tmp 22) rfl _ wr.heap.size rfl rfl (insA I) rfl 16 size16 rfl rfl (insA_one I) ?_)
      have HI4 := hide (Blk.new wr (insA I) 39)
      have D4 := hide (And.intro ((unhide D).1.alloc (.cells (insA I) 39)) ((unhide D).2.alloc (.cells (insA I) 39)))
      have hgb := (unhide D).1.lt
      generalize wr.alloc (.cells (insA I) 39) = w4 at HI4 D4 ⊢
      generalize wr.heap.size = B4 at *
      have ck := (unhide D4).1.cell (bcells_at (r := R) (i := k) (by rw [unhide HRL]; omega))
      have ES : Hid (R2 = if R.getD k false then markL R (nextP I k) else R) := unhide HRK
      clear D HRG HRK
      have hk1 : (k : Int) < (C.ins.length : Int) + 1 := by omega
      generalize R.getD k false = rk at *
      cases rk
      · have EK : Hid (R2 = R) := by rw [Hid, unhide ES]; rfl
        go_wp2
        go_roundw
        case rel => exact ⟨k + 1, by omega, by go_num, by rw [unhide HR2, unhide EK]; exact (unhide D4).1, (unhide D4).2⟩
        case measure => simp [intOf]; omega
      · have EK : Hid (R2 = markL R (nextP I k)) := by rw [Hid, unhide ES]; rfl
        clear ES
        obtain ⟨i0, i1, i2, i3, i4, i5, i6, i7⟩ := cellJ (unhide HI4)
        have HGE := hide (fun (y : Nat) (hy : y < C.ins.length + 1) => (unhide D4).1.cell (bcells_at (r := R) (i := y) (by rw [unhide HRL]; omega)))
        have HF := hide (fun y => (unhide D4).1.free y)
        by_cases h10 : I 0 = 10
        · have EN : Hid (nextP I k = [I 5]) := by simp [Hid, nextP, h10]
          rw [unhide EN] at EK HNK
          obtain ⟨r0, r1⟩ := unhide HNK (I 5) (by simp)
          rw [h10] at i0
          clear h10
          generalize I 5 = x at *
          obtain ⟨y, rfl⟩ : ∃ y : Nat, x = (y : Int) := ⟨x.toNat, by omega⟩
          have cy := unhide HGE y (by omega)
          have fy := unhide HF y
          have D6 := hide (show Blk (w4.setCell ⟨g, y, none⟩ (.bool true)) g (bcells R2) 4 ∧ Ext w (w4.setCell ⟨g, y, none⟩ (.bool true)) from by
            refine ⟨?_, extSet (unhide D4).2 (by omega)⟩
            rw [unhide EK, markL, markL, ← bcells_set, Int.toNat_natCast]
            exact (unhide D4).1.set y _)
          have hyn : (y : Int) < (C.ins.length : Int) + 1 := by omega
          go_wp2
          go_roundw
          case rel => exact ⟨k + 1, by omega, by go_num, by rw [unhide HR2]; exact (unhide D6).1, (unhide D6).2⟩
          case measure => simp [intOf]; omega
        · have d10 : (I 0 == 10) = false := beq_eq_false_iff_ne.2 h10
          have e10 : (I 0 != 10) = true := by simp [h10]
          by_cases h11 : I 0 = 11
          · have EN : Hid (nextP I k = [I 5, (k : Int) + 1]) := by simp [Hid, nextP, h11]
            rw [unhide EN] at EK HNK
            obtain ⟨r0, r1⟩ := unhide HNK (I 5) (by simp)
            rw [h11] at i0
            have HH := hide h11
            clear h10 d10 e10 h11
            generalize I 5 = x at *
            obtain ⟨y, rfl⟩ : ∃ y : Nat, x = (y : Int) := ⟨x.toNat, by omega⟩
            have cy := unhide HGE y (by omega)
            have fy := unhide HF y
            have hyn : (y : Int) < (C.ins.length : Int) + 1 := by omega
            have D5 := hide (show Blk (w4.setCell ⟨g, y, none⟩ (.bool true)) g (bcells (R.set y true)) 4 ∧ Ext w (w4.setCell ⟨g, y, none⟩ (.bool true)) ∧ Blk (w4.setCell ⟨g, y, none⟩ (.bool true)) B4 (insA I) 39 from by
              refine ⟨?_, extSet (unhide D4).2 (by omega), (unhide HI4).other (r := g) y _ (by omega)⟩
              rw [← bcells_set]
              exact (unhide D4).1.set y _)
            go_upto_region 10 with fail
            generalize w4.setCell ⟨g, y, none⟩ (.bool true) = w5 at D5 ⊢
            have j0 := (cellJ (unhide D5).2.2).1
            rw [unhide HH] at j0
            have ck2 := (unhide D5).1.cell (bcells_at (r := R.set y true) (i := k + 1) (by rw [List.length_set, unhide HRL]; omega))
            have fk2 := (unhide D5).1.free (k + 1)
            have D6 := hide (show Blk (w5.setCell ⟨g, k + 1, none⟩ (.bool true)) g (bcells R2) 4 ∧ Ext w (w5.setCell ⟨g, k + 1, none⟩ (.bool true)) from by
              refine ⟨?_, extSet (unhide D5).2.1 (by omega)⟩
              rw [unhide EK, markL, markL, markL, ← bcells_set, Int.toNat_natCast, show ((k : Int) + 1).toNat = k + 1 by omega]
              exact (unhide D5).1.set (k + 1) _)
            clear i0 i1 i2 i3 i4 i5 i6 i7 cy fy ck
            go_wp2
            go_roundw
            case rel => exact ⟨k + 1, by omega, by go_num, by rw [unhide HR2]; exact (unhide D6).1, (unhide D6).2⟩
            case measure => simp [intOf]; omega
          · have d11 : (I 0 == 11) = false := beq_eq_false_iff_ne.2 h11
            by_cases h12 : I 0 = 12
            · have EN : Hid (nextP I k = []) := by simp [Hid, nextP, h12]
              rw [unhide EN] at EK
              rw [h12] at i0
              clear d10 e10 d11 h10 h11 h12
              go_wp2
              go_roundw
              case rel => exact ⟨k + 1, by omega, by go_num, by rw [unhide HR2, unhide EK]; exact (unhide D4).1, (unhide D4).2⟩
              case measure => simp [intOf]; omega
            · have e12 : (I 0 != 12) = true := by simp [h12]
              have EN : Hid (nextP I k = [(k : Int) + 1]) := by simp [Hid, nextP, h10, h11, h12]
              rw [unhide EN] at EK
              have ck2 := unhide HGE (k + 1) (by omega)
              have fk2 := unhide HF (k + 1)
              have D6 := hide (show Blk (w4.setCell ⟨g, k + 1, none⟩ (.bool true)) g (bcells R2) 4 ∧ Ext w (w4.setCell ⟨g, k + 1, none⟩ (.bool true)) from by
                refine ⟨?_, extSet (unhide D4).2 (by omega)⟩
                rw [unhide EK, markL, markL, ← bcells_set, show ((k : Int) + 1).toNat = k + 1 by omega]
                exact (unhide D4).1.set (k + 1) _)
              clear h10 h11 h12
              go_wp2
              go_roundw
              case rel => exact ⟨k + 1, by omega, by go_num, by rw [unhide HR2]; exact (unhide D6).1, (unhide D6).2⟩
              case measure => simp [intOf]; omega
    · obtain rfl : k = C.ins.length := by omega
      go_wp2
      go_ret
      exact ⟨g, rfl, (unhide D).1, hxs, (unhide D).2⟩
end Go.Proofs.Ytfoffnbkfnbglaa
