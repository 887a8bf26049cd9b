/- Several texts in one. -/
import Derived.Test.YtfoffnbkfnbglaaCFxJ
import Derived.Shelf.Bytes.SlSmallAll
import Derived.Deep.Upon
import Derived.Test.YtfoffnbkfnbglaaCRm
import Derived.Deep.QuietTactic
import Derived.BigQuiet
/-
  Codes and their bytes, plainly: what was encoded is decoded, and the other way round.
-/
namespace Go.Proofs.Ytfoffnbkfnbglaa
open Go.RowKit
set_option linter.unusedVariables false
set_option linter.unusedSimpArgs false

theorem num_low (x : Int) : numOf (low x 4) = x % 4294967296 := by
  simp only [low, numOf]
  omega
theorem low_of_num : ∀ (l : List Int), Byt l → low (numOf l) l.length = l
  | [], _ => rfl
  | c :: r, h => by
    have hc := h c (by simp)
    have ih := low_of_num r (fun x hx => h x (by simp [hx]))
    rw [List.length_cons, low, numOf]
    have e1 : (c + 256 * numOf r) % 256 = c := by omega
    have e2 : (c + 256 * numOf r) / 256 = numOf r := by omega
    rw [e1, e2, ih]
theorem low_len4 (x : Int) : (low x 4).length = 4 := by simp [low]
theorem bytL_at : ∀ (l : List Int) (i : Nat) (h : i < l.length), ((bytL l).drop (4 * i)).take 4 = low l[i] 4
  | x :: r, 0, _ => by
    have e : bytL (x :: r) = low x 4 ++ bytL r := rfl
    have h4 := List.take_left (l₁ := low x 4) (l₂ := bytL r)
    rw [low_len4] at h4
    rw [e, Nat.mul_zero, List.drop_zero, h4]
    simp
  | x :: r, i + 1, h => by
    have e : bytL (x :: r) = low x 4 ++ bytL r := rfl
    have ih := bytL_at r i (by simpa using h)
    rw [e, show 4 * (i + 1) = (low x 4).length + 4 * i by rw [low_len4]; omega, ← List.drop_drop, List.drop_left, ih]
    simp
theorem numA_bytL (l : List Int) (i : Nat) (h : i < l.length) (h0 : 0 ≤ l[i]) (h1 : l[i] < 4294967296) : numA (bytL l) (4 * i) = l[i] := by
  unfold numA
  rw [bytL_at l i h, num_low]
  omega
/-- The raw numbers of a code. -/
def rawL (C : Cod) : List Int := hdL C C.ins.length ++ C.ins.flatMap inL
theorem numL_raw (C : Cod) : numL C = (rawL C).map lo32 := by
  unfold numL numK rawL
  rw [List.take_length]
theorem flat_len (L : List (Nat → Int)) : (L.flatMap inL).length = 16 * L.length := by
  induction L with
  | nil => rfl
  | cons x r ih => rw [List.flatMap_cons, List.length_append, ih]; simp [inL]; omega
theorem flat_at : ∀ (L : List (Nat → Int)) (j i : Nat) (hj : j < L.length) (hi : i < 16), (L.flatMap inL)[16 * j + i]? = some (L[j] i)
  | x :: r, 0, i, _, hi => by
    rw [List.flatMap_cons, List.getElem?_append_left (by simp [inL]; omega)]
    rcases (by omega : i = 0 ∨ i = 1 ∨ i = 2 ∨ i = 3 ∨ i = 4 ∨ i = 5 ∨ i = 6 ∨ i = 7 ∨ i = 8 ∨ i = 9 ∨ i = 10 ∨ i = 11 ∨ i = 12 ∨ i = 13 ∨ i = 14 ∨ i = 15) with rfl | rfl | rfl | rfl | rfl | rfl | rfl | rfl | rfl | rfl | rfl | rfl | rfl | rfl | rfl | rfl <;> rfl
  | x :: r, j + 1, i, h, hi => by
    have ih := flat_at r j i (by simpa using h) hi
    have el : (inL x).length = 16 := rfl
    rw [List.flatMap_cons, List.getElem?_append_right (by omega), el, show 16 * (j + 1) + i - 16 = 16 * j + i by omega, ih]
    simp
theorem raw_len (C : Cod) : (rawL C).length = 7 + 16 * C.ins.length := by
  unfold rawL
  rw [List.length_append, flat_len]
  rfl
theorem numA_bytP (C : Cod) (i : Nat) (x : Int) (h : (rawL C)[i]? = some x) : numA (bytP C) (4 * i) = lo32 x := by
  obtain ⟨hi, e⟩ := List.getElem?_eq_some_iff.1 h
  unfold bytP
  rw [numL_raw]
  have hl : i < ((rawL C).map lo32).length := by simpa using hi
  have hx : ((rawL C).map lo32)[i] = lo32 x := by simp [e]
  have := u32_in x
  rw [numA_bytL _ i hl (by rw [hx]; omega) (by rw [hx]; omega), hx]
theorem raw_ins (C : Cod) (j i : Nat) (hj : j < C.ins.length) (hi : i < 16) : (rawL C)[7 + 16 * j + i]? = some (C.ins[j] i) := by
  unfold rawL
  rw [List.getElem?_append_right (by simp [hdL]; omega), show 7 + 16 * j + i - (hdL C C.ins.length).length = 16 * j + i by simp [hdL]; omega]
  exact flat_at _ j i hj hi
theorem raw_hd (C : Cod) (i : Nat) (hi : i < 7) : (rawL C)[i]? = (hdL C C.ins.length)[i]? := by
  unfold rawL
  rw [List.getElem?_append_left (by simp [hdL]; omega)]
theorem sg_lo32 (x : Int) (h0 : -2147483648 ≤ x) (h1 : x ≤ 2147483647) : sg (lo32 x) = x := by
  unfold sg lo32
  simp [IntKind.wrap, IntKind.bits, IntKind.signed]
  omega
theorem lo32_sg (x : Int) (h0 : 0 ≤ x) (h1 : x < 4294967296) : lo32 (sg x) = x := by
  unfold sg lo32
  simp [IntKind.wrap, IntKind.bits, IntKind.signed]
  omega
theorem lo32_id (x : Int) (h0 : 0 ≤ x) (h1 : x < 4294967296) : lo32 x = x := by unfold lo32; omega

theorem args_pos {f b : Int} (h : 0 < argsP f b) : 1 ≤ f ∧ f ≤ 35 ∧ 1 ≤ b ∧ b ≤ 3 := by
  unfold argsP at h
  repeat' split at h
  all_goals omega
set_option maxHeartbeats 4000000 in
/-- The numbers of an instruction that may be are small, Imm's aside. -/
theorem may_small {C : Cod} {n k : Nat} {I : Nat → Int} (h : insB C n k I = true) (hn : n ≤ 4096) (hh : headB C = true) : ∀ i, i < 16 → ¬ (8 ≤ i ∧ i < 12) → 0 ≤ I i ∧ I i < 4294967296 := by
  have hg : C.regs ≤ 1024 ∧ C.attr ≤ 8 ∧ C.unif ≤ 32 ∧ C.vary ≤ 4 := by
    unfold headB at hh
    repeat' split at hh
    all_goals simp [inB_iff] at hh
    all_goals omega
  simp only [insB, Bool.and_eq_true] at h
  obtain ⟨h1, h2, h3⟩ := h
  rw [sameI_iff] at h1
  have z : ∀ i, i < 16 → keeps I i = false → I i = 0 := fun i hi hk => by rw [h1 i hi, justP, hk]; rfl
  have z1 := z 1 (by omega)
  have z2 := z 2 (by omega)
  have z3 := z 3 (by omega)
  have z4 := z 4 (by omega)
  have z5 := z 5 (by omega)
  have z6 := z 6 (by omega)
  have z7 := z 7 (by omega)
  have z12 := z 12 (by omega)
  have z13 := z 13 (by omega)
  have z14 := z 14 (by omega)
  have z15 := z 15 (by omega)
  clear z h1
  simp only [keeps] at z1 z2 z3 z4 z5 z6 z7 z12 z13 z14 z15
  simp only [rgsB, Bool.and_eq_true, readsP, writI] at h2
  unfold fldB loadB storB at h3
  obtain ⟨h4, h5⟩ := h2
  have ho : I 0 = 1 ∨ I 0 = 2 ∨ I 0 = 3 ∨ I 0 = 4 ∨ I 0 = 5 ∨ I 0 = 6 ∨ I 0 = 7 ∨ I 0 = 8 ∨ I 0 = 9 ∨ I 0 = 10 ∨ I 0 = 11 ∨ I 0 = 12 := by
    repeat' split at h3
    all_goals first | omega | cases h3
  have H : (0 ≤ I 1 ∧ I 1 < 4294967296) ∧ (0 ≤ I 2 ∧ I 2 < 4294967296) ∧ (0 ≤ I 3 ∧ I 3 < 4294967296) ∧ (0 ≤ I 4 ∧ I 4 < 4294967296) ∧ (0 ≤ I 5 ∧ I 5 < 4294967296) ∧ (0 ≤ I 6 ∧ I 6 < 4294967296) ∧ (0 ≤ I 7 ∧ I 7 < 4294967296) ∧ (0 ≤ I 12 ∧ I 12 < 4294967296) ∧ (0 ≤ I 13 ∧ I 13 < 4294967296) ∧ (0 ≤ I 14 ∧ I 14 < 4294967296) ∧ (0 ≤ I 15 ∧ I 15 < 4294967296) := by
    rcases ho with e | e | e | e | e | e | e | e | e | e | e | e
    case inr.inr.inr.inr.inl =>
      simp [e, wrB, cntB] at h3 h5 z1 z2 z3 z4 z5 z6 z7 z12 z13 z14 z15 h4
      obtain ⟨ha, hc⟩ := h3
      have hp := args_pos ha
      have hl := argsP_le (I 1) (I 2)
      rw [inB_iff] at h5
      have e5 : 0 ≤ I 5 ∧ I 5 < 1024 := by
        have := h4 (I 5) (by rw [List.mem_take_iff_getElem]; exact ⟨0, by simp; omega, rfl⟩)
        rw [inB_iff] at this
        omega
      have e6 : 0 ≤ I 6 ∧ I 6 < 1024 := by
        by_cases h9 : 2 ≤ argsP (I 1) (I 2)
        · have := h4 (I 6) (by rw [List.mem_take_iff_getElem]; exact ⟨1, by simp; omega, rfl⟩)
          rw [inB_iff] at this
          omega
        · have := z6 (by omega)
          omega
      have e7 : 0 ≤ I 7 ∧ I 7 < 1024 := by
        by_cases h9 : 3 ≤ argsP (I 1) (I 2)
        · have := h4 (I 7) (by rw [List.mem_take_iff_getElem]; exact ⟨2, by simp; omega, rfl⟩)
          rw [inB_iff] at this
          omega
        · have := z7 (by omega)
          omega
      omega
    all_goals
      simp [e, wrB, cntB, plcB, baseB, inB_iff] at h3 h4 h5 z1 z2 z3 z4 z5 z6 z7 z12 z13 z14 z15
      try (repeat' split at h3)
      all_goals (try simp [inB_iff] at h3)
      all_goals omega
  intro i hi hn8
  rcases (by omega : i = 0 ∨ i = 1 ∨ i = 2 ∨ i = 3 ∨ i = 4 ∨ i = 5 ∨ i = 6 ∨ i = 7 ∨ i = 12 ∨ i = 13 ∨ i = 14 ∨ i = 15) with rfl | rfl | rfl | rfl | rfl | rfl | rfl | rfl | rfl | rfl | rfl | rfl
  · omega
  all_goals omega

theorem headB_in {C : Cod} (h : headB C = true) : (1 ≤ C.stage ∧ C.stage ≤ 2) ∧ (0 ≤ C.regs ∧ C.regs ≤ 1024) ∧ (0 ≤ C.attr ∧ C.attr ≤ 8) ∧ (0 ≤ C.unif ∧ C.unif ≤ 32) ∧ (0 ≤ C.vary ∧ C.vary ≤ 4) := by
  unfold headB at h
  repeat' split at h
  all_goals simp [inB_iff] at h
  all_goals omega
/-- What was encoded is decoded. -/
theorem enc_dec (C : Cod) (hm : mayP C = true) (hok : ∀ I ∈ C.ins, OkI I) : decB (bytP C) = true ∧ sameC C (codA (bytP C)) = true := by
  have hlen := bytP_len C
  have hm0 := hm
  simp only [mayP, Bool.and_eq_true, decide_eq_true_eq] at hm
  obtain ⟨hh, hn, ht⟩ := hm
  obtain ⟨s0, s1, s2, s3, s4⟩ := headB_in hh
  have hnI : nI (bytP C) = C.ins.length := by unfold nI; rw [hlen]; omega
  have hd : ∀ i (x : Int), (hdL C C.ins.length)[i]? = some x → i < 7 → 0 ≤ x → x < 4294967296 → numA (bytP C) (4 * i) = x := fun i x h hi h0 h1 => by
    rw [numA_bytP C i x (by rw [raw_hd C i hi]; exact h), lo32_id x h0 h1]
  have n0 := hd 0 1128353872 rfl (by omega) (by omega) (by omega)
  have n1 := hd 1 C.stage rfl (by omega) (by omega) (by omega)
  have n2 := hd 2 C.regs rfl (by omega) (by omega) (by omega)
  have n3 := hd 3 C.attr rfl (by omega) (by omega) (by omega)
  have n4 := hd 4 C.unif rfl (by omega) (by omega) (by omega)
  have n5 := hd 5 C.vary rfl (by omega) (by omega) (by omega)
  have n6 := hd 6 (C.ins.length : Int) rfl (by omega) (by omega) (by omega)
  have hs : sameC C (codA (bytP C)) = true := by
    rw [sameC_iff]
    refine ⟨n1.symm, n2.symm, n3.symm, n4.symm, n5.symm, ?_, fun k hk i hi => ?_⟩
    · show C.ins.length = (insL (bytP C) 28 0 (nI (bytP C))).length
      rw [insL_len, hnI]
    · show (C.ins.getD k zI) i = ((insL (bytP C) 28 0 (nI (bytP C))).getD k zI) i
      rw [hnI]
      have e1 : (insL (bytP C) 28 0 C.ins.length).getD k zI = insX (bytP C) 28 0 k := by simp [insL, hk]
      have e2 : C.ins.getD k zI = C.ins[k] := by simp [hk]
      have h2 := mayTo_at ht hk
      rw [e2] at h2
      have hsm := may_small h2 hn hh i hi
      have ho := (hok C.ins[k] (List.getElem_mem hk)).2.1
      rw [e1, e2, insX_at _ k i hi (by rw [hlen]; omega), show 28 + 64 * k + 4 * i = 4 * (7 + 16 * k + i) by omega, numA_bytP C _ _ (raw_ins C k i hk hi)]
      split
      · have h9 := ho (i - 8) (by omega)
        rw [show 8 + (i - 8) = i by omega] at h9
        rw [sg_lo32 _ h9.1 h9.2]
      · have h9 := hsm (by assumption)
        rw [lo32_id _ h9.1 h9.2]
  refine ⟨?_, hs⟩
  unfold decB
  rw [← may_congr _ _ hs, hm0, hlen, hnI]
  have n0' : numA (bytP C) 0 = 1128353872 := n0
  have n6' : numA (bytP C) 24 = (C.ins.length : Int) := n6
  have a1 : 28 + 64 * C.ins.length ≤ 262172 := by omega
  have a2 : 28 ≤ 28 + 64 * C.ins.length := by omega
  have a3 : (28 + 64 * C.ins.length - 28) % 64 = 0 := by omega
  rw [decide_eq_true a1, decide_eq_true a2, decide_eq_true a3, decide_eq_true n0', decide_eq_true n6']
  rfl
theorem numA_in (bs : List Int) (p : Nat) (hB : Byt bs) : 0 ≤ numA bs p ∧ numA bs p < 4294967296 := by
  have h : ∀ l : List Int, l.length ≤ 4 → Byt l → 0 ≤ numOf l ∧ numOf l < 4294967296 := by
    intro l hl hb
    match l, hl, hb with
    | [], _, _ => simp [numOf]
    | [a], _, hb => have := hb a (by simp); simp [numOf]; omega
    | [a, b], _, hb => have := hb a (by simp); have := hb b (by simp); simp [numOf]; omega
    | [a, b, c], _, hb => have := hb a (by simp); have := hb b (by simp); have := hb c (by simp); simp [numOf]; omega
    | [a, b, c, d], _, hb => have := hb a (by simp); have := hb b (by simp); have := hb c (by simp); have := hb d (by simp); simp [numOf]; omega
  exact h _ (by simp; omega) (fun x hx => hB x (List.mem_of_mem_drop (List.mem_of_mem_take hx)))
theorem bytL_num : ∀ (m : Nat) (bs : List Int), bs.length = 4 * m → Byt bs → bytL ((List.range m).map fun i => numA bs (4 * i)) = bs
  | 0, bs, h, _ => by
    have : bs = [] := by simpa using h
    subst this
    rfl
  | m + 1, bs, h, hB => by
    have ih := bytL_num m (bs.drop 4) (by simp; omega) (fun x hx => hB x (List.mem_of_mem_drop hx))
    rw [List.range_succ_eq_map, List.map_cons, List.map_map]
    have e : (List.map ((fun i => numA bs (4 * i)) ∘ Nat.succ) (List.range m)) = (List.range m).map fun i => numA (bs.drop 4) (4 * i) := by
      apply List.map_congr_left
      intro i _
      simp only [Function.comp, numA, List.drop_drop]
      rw [show 4 + 4 * i = 4 * i.succ by omega]
    rw [e]
    show low (numA bs (4 * 0)) 4 ++ bytL _ = bs
    rw [ih]
    have h4 := low_of_num (bs.take 4) (fun x hx => hB x (List.mem_of_mem_take hx))
    rw [List.length_take, show min 4 bs.length = 4 by omega] at h4
    unfold numA
    rw [Nat.mul_zero, List.drop_zero, h4, List.take_append_drop]
/-- What was decoded is encoded. -/
theorem dec_enc (bs : List Int) (hB : Byt bs) (hd : decB bs = true) : bytP (codA bs) = bs := by
  unfold decB at hd
  simp only [Bool.and_eq_true, decide_eq_true_eq] at hd
  obtain ⟨h1, h2, h3, h4, h5, h6⟩ := hd
  have hn : bs.length = 28 + 64 * nI bs := by unfold nI; omega
  have hl : (codA bs).ins.length = nI bs := insL_len _ _ _ _
  have e : (rawL (codA bs)).map lo32 = (List.range (7 + 16 * nI bs)).map fun i => numA bs (4 * i) := by
    apply List.ext_getElem?
    intro i
    by_cases hi : i < 7 + 16 * nI bs
    · rw [List.getElem?_map, List.getElem?_map, List.getElem?_range hi, Option.map_some]
      by_cases h7 : i < 7
      · rw [raw_hd _ i h7, hl]
        rcases (by omega : i = 0 ∨ i = 1 ∨ i = 2 ∨ i = 3 ∨ i = 4 ∨ i = 5 ∨ i = 6) with rfl | rfl | rfl | rfl | rfl | rfl | rfl
        · show some (lo32 1128353872) = some (numA bs 0)
          rw [h4]; rfl
        · exact congrArg some (lo32_id (numA bs 4) (numA_in bs 4 hB).1 (numA_in bs 4 hB).2)
        · exact congrArg some (lo32_id (numA bs 8) (numA_in bs 8 hB).1 (numA_in bs 8 hB).2)
        · exact congrArg some (lo32_id (numA bs 12) (numA_in bs 12 hB).1 (numA_in bs 12 hB).2)
        · exact congrArg some (lo32_id (numA bs 16) (numA_in bs 16 hB).1 (numA_in bs 16 hB).2)
        · exact congrArg some (lo32_id (numA bs 20) (numA_in bs 20 hB).1 (numA_in bs 20 hB).2)
        · show some (lo32 (nI bs : Int)) = some (numA bs 24)
          rw [h5, lo32_id _ (by omega) (by omega)]
      · have hj : (i - 7) / 16 < nI bs := by omega
        have ei : i = 7 + 16 * ((i - 7) / 16) + (i - 7) % 16 := by omega
        have hr := raw_ins (codA bs) ((i - 7) / 16) ((i - 7) % 16) (by rw [hl]; exact hj) (by omega)
        rw [← ei] at hr
        rw [hr, Option.map_some]
        have ex : (codA bs).ins[(i - 7) / 16]'(by rw [hl]; exact hj) = insX bs 28 0 ((i - 7) / 16) := by simp [codA, insL]
        rw [ex, insX_at bs _ _ (by omega) (by omega), show 28 + 64 * ((i - 7) / 16) + 4 * ((i - 7) % 16) = 4 * i by omega]
        have hin := numA_in bs (4 * i) hB
        split
        · rw [lo32_sg _ hin.1 hin.2]
        · rw [lo32_id _ hin.1 hin.2]
    · rw [List.getElem?_eq_none (by rw [List.length_map, raw_len, hl]; omega), List.getElem?_eq_none (by simp; omega)]
  unfold bytP
  rw [numL_raw, e]
  exact bytL_num _ bs (by omega) hB
/-- A byte less or more is nothing. -/
theorem dec_other (C : Cod) (bs : List Int) (hn : C.ins.length ≤ 4096) (h24 : 28 ≤ bs.length → numA bs 24 = (C.ins.length : Int)) (hl : bs.length ≠ 28 + 64 * C.ins.length) : decB bs = false := by
  cases h : decB bs with
  | false => rfl
  | true =>
    unfold decB at h
    simp only [Bool.and_eq_true, decide_eq_true_eq] at h
    obtain ⟨h1, h2, h3, h4, h5, h6⟩ := h
    have := h24 h2
    unfold nI at h5
    omega
end Go.Proofs.Ytfoffnbkfnbglaa

/-
  Codes: a code in memory of its own; the document's Same.
-/
namespace Go.Proofs.Ytfoffnbkfnbglaa
open Go.RowKit
set_option linter.unusedVariables false
set_option linter.unusedSimpArgs false

section
variable {w : World} {ops : Array Oper} {rest : List Oper} {o : Oper} {a : Act} {Q : Exit → Act → World → Prop}
theorem wpList_build_none (hgd : o.guard = none) (ho : o.op = .buildSlice 24 0 #[]) (base : Nat) (hb : base ≤ w.heap.size)
    (h : ∀ w', OI w' base (.slice (some ⟨w.heap.size, 0, none⟩) 0 0) [] → w' = w.alloc (.cells #[] 39) → wpList Try.prog ops Q rest (a.put o.dst (.slice (some ⟨w.heap.size, 0, none⟩) 0 0)) w') : wpList Try.prog ops Q (o :: rest) a w := by
  refine wpList_plain hgd fun K hK => ?_
  obtain ⟨i0, hi, hz0, hz1, hz2⟩ := info_all infoI
  unfold Oper.wp
  simp [execOp, ho, Instr.buildSlice, run_underlying, run_sizeOf, Try.underlying24, hi, hz1, Instr.fill, newRow, newObj, Result.andThen]
  rw [show (Array.map (fun x => (default : Value)) (Array.range 0)) = #[] from by simp]
  refine hK _ _ (h (w.alloc (.cells #[] 39)) ?_ rfl)
  exact ⟨rfl, .inr ⟨w.heap.size, 0, #[], rfl, hb, heap_alloc_last w _, Nat.le_refl _, Nat.zero_le _, rfl, rfl⟩⟩
theorem wpList_append_inss (hgd : o.guard = none) (s x : Operand) (ho : o.op = .call { callee := .builtin .append, args := #[s, x], argTypes := #[24, 24] }) (base : Nat) (v : Value) (L M : List (Nat → Int)) (hs : a.eval s = v)
    (hown : OI w base v L) (ao : Option Addr) (c : Nat) (hx : a.eval x = .slice ao M.length c) (hrow : IR w (.slice ao M.length c) M) (hL : L.length + M.length ≤ 1000000) (hbase : base ≤ w.heap.size)
    (h : ∀ v' w', OI w' base v' (L ++ M) → w.grownBy w' v.ownBlock → wpList Try.prog ops Q rest (a.put o.dst v') w') : wpList Try.prog ops Q (o :: rest) a w :=
  wpList_plain hgd fun K hK => wp_append_inss s x ho base v L M hs hown ao c hx hrow hL hbase fun v' w' h1 h2 => hK _ _ (h v' w' h1 h2)
end

set_option maxRecDepth 10000 in
set_option maxHeartbeats 4000000 in
theorem copied_any (C : Cod) (v : Value) (w : World) (h : IR w v C.ins) (hl : C.ins.length ≤ 4097) : Calls Try.prog 25 #[.agg #[.int .i64 (C).stage, v, .int .i64 (C).regs, .int .i64 (C).attr, .int .i64 (C).unif, .int .i64 (C).vary]] w fun e w' => ∃ am cm, e = .returned (.agg #[.int .i64 (C).stage, .slice am C.ins.length cm, .int .i64 (C).regs, .int .i64 (C).attr, .int .i64 (C).unif, .int .i64 (C).vary]) ∧ IR w' (.slice am C.ins.length cm) C.ins ∧ Ext w w' := by
  have HV := hide h
  obtain ⟨ao, ca, rfl, hn0, hlc, hcm, hat⟩ := h
  clear hat hn0
  have HX0 : Hid (Ext w ((w.alloc (.cells #[.int .i64 (C).stage, .slice ao C.ins.length ca, .int .i64 (C).regs, .int .i64 (C).attr, .int .i64 (C).unif, .int .i64 (C).vary] 26)).alloc (.cells #[.int .i64 0, .slice none 0 0, .int .i64 0, .int .i64 0, .int .i64 0, .int .i64 0] 26))) := ((Ext.refl w).alloc _).alloc _
  have HB0 : Hid (Blk ((w.alloc (.cells #[.int .i64 (C).stage, .slice ao C.ins.length ca, .int .i64 (C).regs, .int .i64 (C).attr, .int .i64 (C).unif, .int .i64 (C).vary] 26)).alloc (.cells #[.int .i64 0, .slice none 0 0, .int .i64 0, .int .i64 0, .int .i64 0, .int .i64 0] 26)) w.heap.size #[.int .i64 (C).stage, .slice ao C.ins.length ca, .int .i64 (C).regs, .int .i64 (C).attr, .int .i64 (C).unif, .int .i64 (C).vary] 26) := (Blk.new w _ _).alloc _
  have HR0 : Hid (Blk ((w.alloc (.cells #[.int .i64 (C).stage, .slice ao C.ins.length ca, .int .i64 (C).regs, .int .i64 (C).attr, .int .i64 (C).unif, .int .i64 (C).vary] 26)).alloc (.cells #[.int .i64 0, .slice none 0 0, .int .i64 0, .int .i64 0, .int .i64 0, .int .i64 0] 26)) (w.heap.size + 1) #[.int .i64 0, .slice none 0 0, .int .i64 0, .int .i64 0, .int .i64 0, .int .i64 0] 26) := Blk.here (by simp)
  go_enter Try.func25, Try.ntmps25
  go_upto_region 1 with fail
  generalize ((w.alloc (.cells #[.int .i64 (C).stage, .slice ao C.ins.length ca, .int .i64 (C).regs, .int .i64 (C).attr, .int .i64 (C).unif, .int .i64 (C).vary] 26)).alloc (.cells #[.int .i64 0, .slice none 0 0, .int .i64 0, .int .i64 0, .int .i64 0, .int .i64 0] 26)) = w0 at HX0 HB0 HR0 ⊢
  go_wp2_with (refine wpList_build_none rfl rfl w.heap.size (unhide HX0).size ?_)
  intro w1 hio e1
  have HX1 : Hid (Ext w w1) := by rw [Hid, e1]; exact (unhide HX0).alloc _
  have HB1 : Hid (Blk w1 w.heap.size #[.int .i64 (C).stage, .slice ao C.ins.length ca, .int .i64 (C).regs, .int .i64 (C).attr, .int .i64 (C).unif, .int .i64 (C).vary] 26) := by rw [Hid, e1]; exact (unhide HB0).alloc _
  have HR1 : Hid (Blk w1 (w.heap.size + 1) #[.int .i64 0, .slice none 0 0, .int .i64 0, .int .i64 0, .int .i64 0, .int .i64 0] 26) := by rw [Hid, e1]; exact (unhide HR0).alloc _
  have HIO := hide hio
  generalize w0.heap.size = g0 at *
  clear e1 hio HX0 HB0 HR0
  obtain ⟨z0, z1, z2, z3, z4, z5⟩ := cellC (unhide HB1)
  go_wp2_with (refine wpList_append_inss rfl (.tmp 3) (.tmp 5) rfl w.heap.size _ [] C.ins rfl (unhide HIO) ao ca rfl ((unhide HV).ext (unhide HX1)) (by simp; omega) (unhide HX1).size ?_)
  intro v6 w2 hm2 hg
  try rw [List.nil_append] at hm2
  have hxx : Ext w w2 := (unhide HX1).grown hg (unhide HX1).size (fun k e => ((unhide HIO).lt k e).1)
  have HB2 := hide ((unhide HB1).grownO hg ((unhide HIO).neB (unhide HB1) (by decide)))
  have HR2 := hide ((unhide HR1).grownO hg ((unhide HIO).neB (unhide HR1) (by decide)))
  obtain ⟨am, cm, e6, _⟩ := hm2.shape
  subst e6
  have HM := hide hm2
  have HX2 := hide hxx
  clear hm2 hg hxx HIO HB1 HR1 HX1 z0 z1 z2 z3 z4 z5
  have HB3 := hide ((unhide HB2).set 1 (.slice am C.ins.length cm))
  have HR3 := hide ((unhide HR2).other (r := w.heap.size) 1 (.slice am C.ins.length cm) (by omega))
  have HM3 := hide ((unhide HM).kept9 (grownBy_set w2 w.heap.size 1 (.slice am C.ins.length cm)) ((unhide HM).neB (unhide HB2) (by decide)))
  have HX3 := hide (extSet (i := 1) (v := .slice am C.ins.length cm) (unhide HX2) (Nat.le_refl _))
  have c1 := (cellC (unhide HB2)).2.1
  have f1 := (unhide HB2).free 1
  go_upto_region 2 with fail
  generalize w2.setCell _ _ = w3 at HB3 HR3 HM3 HX3 ⊢
  clear HB2 HR2 HM HX2 c1 f1
  have HB4 : Hid (Blk w3 w.heap.size #[.int .i64 (C).stage, .slice am C.ins.length cm, .int .i64 (C).regs, .int .i64 (C).attr, .int .i64 (C).unif, .int .i64 (C).vary] 26) := unhide HB3
  clear HB3
  go_wp2_with (first
    | refine wpList_load_row rfl 26 (.tmp 1) rfl w.heap.size rfl 26 #[.int .i64 (C).stage, .slice am C.ins.length cm, .int .i64 (C).regs, .int .i64 (C).attr, .int .i64 (C).unif, .int .i64 (C).vary] (0, 0) _ (unhide HB4) Try.underlying26 rfl size6 ?_
    | refine wpList_store_row rfl 26 (.tmp 2) (.tmp 8) rfl (w.heap.size + 1) #[.int .i64 (C).stage, .slice am C.ins.length cm, .int .i64 (C).regs, .int .i64 (C).attr, .int .i64 (C).unif, .int .i64 (C).vary] rfl rfl 26 _ (unhide HR3) size6 rfl (by simp [Value.oneCell']) ?_)
  refine bodyPost_ret (v := .agg #[.int .i64 (C).stage, .slice am C.ins.length cm, .int .i64 (C).regs, .int .i64 (C).attr, .int .i64 (C).unif, .int .i64 (C).vary]) (results_cell_row Try.results25 _ _ (w.heap.size + 1) 26 _ (0, 0) _ rfl ((unhide HR3).rowC) Try.underlying26 rfl size6) rfl ?_
  exact ⟨am, cm, rfl, ((unhide HM3).kept9 (grownBy_row _ _ _) ((unhide HM3).neB (unhide HR3) (by decide))).ir, extRow (unhide HX3) (by omega)⟩

set_option maxRecDepth 10000 in
set_option maxHeartbeats 8000000 in
theorem refSame_any (C D : Cod) (v u : Value) (w : World) (hA : IR w v C.ins) (hB : IR w u D.ins) : Calls Try.prog 9 #[.agg #[.int .i64 (C).stage, v, .int .i64 (C).regs, .int .i64 (C).attr, .int .i64 (C).unif, .int .i64 (C).vary], .agg #[.int .i64 (D).stage, u, .int .i64 (D).regs, .int .i64 (D).attr, .int .i64 (D).unif, .int .i64 (D).vary]] w fun e w' => e = .returned (.bool (sameC C D)) ∧ Ext w w' := by
  have HA := hide hA
  have HB := hide hB
  obtain ⟨ao, ca, rfl, _, ha1, ha2, _⟩ := hA
  obtain ⟨bo, cb, rfl, _, hb1, hb2, _⟩ := hB
  unfold maxLen at ha2 hb2
  have E := hide (sameC_hd C D)
  have HX : Hid (Ext w ((w.alloc (.cells #[.int .i64 (C).stage, .slice ao C.ins.length ca, .int .i64 (C).regs, .int .i64 (C).attr, .int .i64 (C).unif, .int .i64 (C).vary] 26)).alloc (.cells #[.int .i64 (D).stage, .slice bo D.ins.length cb, .int .i64 (D).regs, .int .i64 (D).attr, .int .i64 (D).unif, .int .i64 (D).vary] 26))) := ((Ext.refl w).alloc _).alloc _
  have HCA : Hid (Blk ((w.alloc (.cells #[.int .i64 (C).stage, .slice ao C.ins.length ca, .int .i64 (C).regs, .int .i64 (C).attr, .int .i64 (C).unif, .int .i64 (C).vary] 26)).alloc (.cells #[.int .i64 (D).stage, .slice bo D.ins.length cb, .int .i64 (D).regs, .int .i64 (D).attr, .int .i64 (D).unif, .int .i64 (D).vary] 26)) w.heap.size #[.int .i64 (C).stage, .slice ao C.ins.length ca, .int .i64 (C).regs, .int .i64 (C).attr, .int .i64 (C).unif, .int .i64 (C).vary] 26) := (Blk.new w _ _).alloc _
  have HCB : Hid (Blk ((w.alloc (.cells #[.int .i64 (C).stage, .slice ao C.ins.length ca, .int .i64 (C).regs, .int .i64 (C).attr, .int .i64 (C).unif, .int .i64 (C).vary] 26)).alloc (.cells #[.int .i64 (D).stage, .slice bo D.ins.length cb, .int .i64 (D).regs, .int .i64 (D).attr, .int .i64 (D).unif, .int .i64 (D).vary] 26)) (w.heap.size + 1) #[.int .i64 (D).stage, .slice bo D.ins.length cb, .int .i64 (D).regs, .int .i64 (D).attr, .int .i64 (D).unif, .int .i64 (D).vary] 26) := Blk.here (by simp)
  have E2 : Hid (sameL C.ins D.ins = (decide (C.ins.length = D.ins.length) && sameTo C.ins D.ins C.ins.length)) := rfl
  generalize sameC C D = z at *
  generalize sameL C.ins D.ins = sl at *
  go_enter Try.func9, Try.ntmps9
  go_upto_region 1 with fail
  generalize ((w.alloc (.cells #[.int .i64 (C).stage, .slice ao C.ins.length ca, .int .i64 (C).regs, .int .i64 (C).attr, .int .i64 (C).unif, .int .i64 (C).vary] 26)).alloc (.cells #[.int .i64 (D).stage, .slice bo D.ins.length cb, .int .i64 (D).regs, .int .i64 (D).attr, .int .i64 (D).unif, .int .i64 (D).vary] 26)) = w2 at HCA HCB HX ⊢
  obtain ⟨p0, p1, p2, p3, p4, p5⟩ := cellC (unhide HCA)
  obtain ⟨q0, q1, q2, q3, q4, q5⟩ := cellC (unhide HCB)
  by_cases d0 : C.stage = D.stage
  case neg =>
    have EQ : Hid (z = false) := by rw [Hid, unhide E]; simp [d0]
    have b0 : (C.stage != D.stage) = true := by simp; exact d0
    clear E E2 d0
    go_wp2
    go_ret
    rw [unhide EQ]
    exact ⟨rfl, unhide HX⟩
  case pos =>
  have b0 : (C.stage != D.stage) = false := by simp [d0]
  by_cases d1 : C.regs = D.regs
  case neg =>
    have EQ : Hid (z = false) := by rw [Hid, unhide E]; simp [d1]
    have b1 : (C.regs != D.regs) = true := by simp; exact d1
    clear E E2 d1
    go_wp2
    go_ret
    rw [unhide EQ]
    exact ⟨rfl, unhide HX⟩
  case pos =>
  have b1 : (C.regs != D.regs) = false := by simp [d1]
  by_cases d2 : C.attr = D.attr
  case neg =>
    have EQ : Hid (z = false) := by rw [Hid, unhide E]; simp [d2]
    have b2 : (C.attr != D.attr) = true := by simp; exact d2
    clear E E2 d2
    go_wp2
    go_ret
    rw [unhide EQ]
    exact ⟨rfl, unhide HX⟩
  case pos =>
  have b2 : (C.attr != D.attr) = false := by simp [d2]
  by_cases d3 : C.unif = D.unif
  case neg =>
    have EQ : Hid (z = false) := by rw [Hid, unhide E]; simp [d3]
    have b3 : (C.unif != D.unif) = true := by simp; exact d3
    clear E E2 d3
    go_wp2
    go_ret
    rw [unhide EQ]
    exact ⟨rfl, unhide HX⟩
  case pos =>
  have b3 : (C.unif != D.unif) = false := by simp [d3]
  by_cases d4 : C.vary = D.vary
  case neg =>
    have EQ : Hid (z = false) := by rw [Hid, unhide E]; simp [d4]
    have b4 : (C.vary != D.vary) = true := by simp; exact d4
    clear E E2 d4
    go_wp2
    go_ret
    rw [unhide EQ]
    exact ⟨rfl, unhide HX⟩
  case pos =>
  have b4 : (C.vary != D.vary) = false := by simp [d4]
  by_cases d5 : (C.ins.length : Int) = (D.ins.length : Int)
  case neg =>
    have EQ : Hid (z = false) := by rw [Hid, unhide E]; simp [d5]
    have b5 : ((C.ins.length : Int) != (D.ins.length : Int)) = true := by simp; exact d5
    clear E E2 d5
    go_wp2
    go_ret
    rw [unhide EQ]
    exact ⟨rfl, unhide HX⟩
  case pos =>
  have b5 : ((C.ins.length : Int) != (D.ins.length : Int)) = false := by simp [d5]
  have el : C.ins.length = D.ins.length := by omega
  have EQ : Hid (z = sameTo C.ins D.ins C.ins.length) := by
    rw [Hid, unhide E, unhide E2, decide_eq_true el]
    simp [d0, d1, d2, d3, d4, d5]
  have HL := hide el
  rw [← el] at HB hb1 HCB q1 b5
  clear E E2 d0 d1 d2 d3 d4 d5 el
  go_upto_region 4 with fail
  generalize C.ins = A at *
  generalize D.ins = B at *
  clear p0 p2 p3 p4 p5 q0 q2 q3 q4 q5 b0 b1 b2 b3 b4 b5
  go_loopw [51] (fun iv wr => ∃ k : Nat, k ≤ A.length ∧ iv = .int .i64 (k : Int) ∧ Ext w2 wr ∧ sameTo A B k = true) (fun iv _ => A.length - (intOf iv).toNat)
  case atStart => exact ⟨0, Nat.zero_le _, rfl, Ext.refl _, rfl⟩
  case round =>
    obtain ⟨k, hk, rfl, hx, hs⟩ := hrel
    have X := hide ((unhide HX).trans hx)
    have XW := hide hx
    have HCA := hide ((unhide HCA).ext hx)
    have HCB := hide ((unhide HCB).ext hx)
    have HS0 := hide hs
    clear hx hs p1 q1
    by_cases hlt : k < A.length
    · have hlB : k < B.length := by rw [← unhide HL]; exact hlt
      have hkn : (k : Int) < (A.length : Int) := by omega
      obtain ⟨_, _, e1, _, _, _, hat⟩ := (unhide HA).ext (unhide X)
      have e1' := (Value.slice.inj e1).1
      subst e1'
      obtain ⟨ba, oa, rfl, hra⟩ := hat k hlt
      obtain ⟨_, _, e2, _, _, _, hbt⟩ := (unhide HB).ext (unhide X)
      have e2' := (Value.slice.inj e2).1
      subst e2'
      obtain ⟨bb, ob, rfl, hrb⟩ := hbt k hlB
      have HRA := hide hra
      have HRB := hide hrb
      have HSU := hide (sameTo_succ A B k)
      have HSF := hide (fun h => sameTo_false (A := A) (B := B) (k := k) (n := A.length) h hlt)
      rw [show A.getD k zI = A[k] by simp [hlt], show B.getD k zI = B[k] by simp [hlB]] at HSU HSF
      have HEQ := hide (fun wx => eqI A[k] B[k] wx)
      generalize A[k] = x at *
      generalize B[k] = y at *
      clear hra hrb hat hbt e1 e2
      generalize hsm : sameI x y = sm at *
      clear hsm
      cases sm
      case false =>
        have EF := hide (unhide HSF (by first | rfl | trivial))
        go_upto_region 6 with fail
        refine wp_region_noPanic ?_
        refine wp_region_held_drew (S := fun wx => Ext wr wx) (by kernel_rfl) ((Ext.refl _).drew) (fun HS => ?_)
        refine wpAnyH_take (i := 0) (oi := { dst := some 54, op := Op.fieldAddr _ (Operand.tmp 2) 1, type := _, pos := _, after := _, guard := none }) (v := .pointer (some ⟨w.heap.size, 1, none⟩)) rfl (by kernel_rfl) (by kernel_rfl) (by kernel_rfl) (fun _ _ _ h => h) (Or.inl ⟨by rfl, fun _ _ => rfl⟩) HS ?_
        simp only [Act.put, List.setIfInBounds_toArray, List.set_cons_zero, List.set_cons_succ]
        refine wpAnyH_take (i := 1) (oi := { dst := some 55, op := Op.load _ (Operand.tmp 54), type := _, pos := _, after := _, guard := none }) (v := .slice (some ⟨ba, oa, none⟩) A.length ca) rfl (by kernel_rfl) (by kernel_rfl) (by kernel_rfl) (fun _ _ _ h => h) (Or.inl ⟨by rfl, fun wx hx => by have h1 := (cellC ((unhide HCA).ext hx)).2.1; go_simp⟩) HS ?_
        simp only [Act.put, List.setIfInBounds_toArray, List.set_cons_zero, List.set_cons_succ]
        refine wpAnyH_take (i := 2) (oi := { dst := some 56, op := Op.move (Operand.tmp 5), type := _, pos := _, after := _, guard := none }) (v := .int .i64 (k : Int)) rfl (by kernel_rfl) (by kernel_rfl) (by kernel_rfl) (fun _ _ _ h => h) (Or.inl ⟨by rfl, fun _ _ => rfl⟩) HS ?_
        simp only [Act.put, List.setIfInBounds_toArray, List.set_cons_zero, List.set_cons_succ]
        refine wpAnyH_take (i := 3) (oi := { dst := some 57, op := Op.indexAddr _ (Operand.tmp 55) (Operand.tmp 56), type := _, pos := _, after := _, guard := none }) (v := .pointer (some ⟨ba, oa + k * 16, none⟩)) rfl (by kernel_rfl) (by kernel_rfl) (by kernel_rfl) (fun _ _ _ h => h) (Or.inl ⟨by rfl, fun wx hx => by go_simp⟩) HS ?_
        simp only [Act.put, List.setIfInBounds_toArray, List.set_cons_zero, List.set_cons_succ]
        refine wpAnyH_take (i := 4) (oi := { dst := some 58, op := Op.load _ (Operand.tmp 57), type := _, pos := _, after := _, guard := none }) (v := .agg (insA x)) rfl (by kernel_rfl) (by kernel_rfl) (by kernel_rfl) (fun _ _ _ h => h) (yieldsIf_load_mid (by rfl) 39 (.tmp 57) rfl ba (oa + k * 16) rfl (insA x).toList _ (fun wx hx => rng_ext (unhide HRA) hx) Try.underlying39 rfl size16) HS ?_
        simp only [Act.put, List.setIfInBounds_toArray, List.set_cons_zero, List.set_cons_succ]
        refine wpAnyH_take (i := 5) (oi := { dst := some 59, op := Op.fieldAddr _ (Operand.tmp 3) 1, type := _, pos := _, after := _, guard := none }) (v := .pointer (some ⟨w.heap.size + 1, 1, none⟩)) rfl (by kernel_rfl) (by kernel_rfl) (by kernel_rfl) (fun _ _ _ h => h) (Or.inl ⟨by rfl, fun _ _ => rfl⟩) HS ?_
        simp only [Act.put, List.setIfInBounds_toArray, List.set_cons_zero, List.set_cons_succ]
        refine wpAnyH_take (i := 6) (oi := { dst := some 60, op := Op.load _ (Operand.tmp 59), type := _, pos := _, after := _, guard := none }) (v := .slice (some ⟨bb, ob, none⟩) A.length cb) rfl (by kernel_rfl) (by kernel_rfl) (by kernel_rfl) (fun _ _ _ h => h) (Or.inl ⟨by rfl, fun wx hx => by have h1 := (cellC ((unhide HCB).ext hx)).2.1; go_simp⟩) HS ?_
        simp only [Act.put, List.setIfInBounds_toArray, List.set_cons_zero, List.set_cons_succ]
        refine wpAnyH_take (i := 7) (oi := { dst := some 61, op := Op.move (Operand.tmp 5), type := _, pos := _, after := _, guard := none }) (v := .int .i64 (k : Int)) rfl (by kernel_rfl) (by kernel_rfl) (by kernel_rfl) (fun _ _ _ h => h) (Or.inl ⟨by rfl, fun _ _ => rfl⟩) HS ?_
        simp only [Act.put, List.setIfInBounds_toArray, List.set_cons_zero, List.set_cons_succ]
        refine wpAnyH_take (i := 8) (oi := { dst := some 62, op := Op.indexAddr _ (Operand.tmp 60) (Operand.tmp 61), type := _, pos := _, after := _, guard := none }) (v := .pointer (some ⟨bb, ob + k * 16, none⟩)) rfl (by kernel_rfl) (by kernel_rfl) (by kernel_rfl) (fun _ _ _ h => h) (Or.inl ⟨by rfl, fun wx hx => by go_simp⟩) HS ?_
        simp only [Act.put, List.setIfInBounds_toArray, List.set_cons_zero, List.set_cons_succ]
        refine wpAnyH_take (i := 9) (oi := { dst := some 63, op := Op.load _ (Operand.tmp 62), type := _, pos := _, after := _, guard := none }) (v := .agg (insA y)) rfl (by kernel_rfl) (by kernel_rfl) (by kernel_rfl) (fun _ _ _ h => h) (yieldsIf_load_mid (by rfl) 39 (.tmp 62) rfl bb (ob + k * 16) rfl (insA y).toList _ (fun wx hx => rng_ext (unhide HRB) hx) Try.underlying39 rfl size16) HS ?_
        simp only [Act.put, List.setIfInBounds_toArray, List.set_cons_zero, List.set_cons_succ]
        refine wpAnyH_take (i := 10) (oi := { dst := some 64, op := Op.binOp BinOp.neq _ (Operand.tmp 58) (Operand.tmp 63) _, type := _, pos := _, after := _, guard := none }) (v := .bool true) rfl (by kernel_rfl) (by kernel_rfl) (by kernel_rfl) (fun _ _ _ h => h) (Or.inl ⟨by rfl, fun wx hx => exec_ne _ _ (.tmp 58) (.tmp 63) _ _ _ _ false rfl rfl rfl grdI (unhide HEQ wx)⟩) HS ?_
        simp only [Act.put, List.setIfInBounds_toArray, List.set_cons_zero, List.set_cons_succ]
        refine wpAnyH_done (by kernel_rfl) ?_ _
        refine NoPanic.normal ?_
        have HX9 := hide ((unhide X).trans HS)
        go_wp2
        go_ret
        rw [unhide EQ, unhide EF]
        exact ⟨rfl, unhide HX9⟩
      case true =>
        have ET : Hid (sameTo A B (k + 1) = true) := by rw [Hid, unhide HSU, unhide HS0]; rfl
        go_upto_region 6 with fail
        refine wp_region_noPanic ?_
        refine wp_region_held_drew (S := fun wx => Ext wr wx) (by kernel_rfl) ((Ext.refl _).drew) (fun HS => ?_)
        refine wpAnyH_take (i := 0) (oi := { dst := some 54, op := Op.fieldAddr _ (Operand.tmp 2) 1, type := _, pos := _, after := _, guard := none }) (v := .pointer (some ⟨w.heap.size, 1, none⟩)) rfl (by kernel_rfl) (by kernel_rfl) (by kernel_rfl) (fun _ _ _ h => h) (Or.inl ⟨by rfl, fun _ _ => rfl⟩) HS ?_
        simp only [Act.put, List.setIfInBounds_toArray, List.set_cons_zero, List.set_cons_succ]
        refine wpAnyH_take (i := 1) (oi := { dst := some 55, op := Op.load _ (Operand.tmp 54), type := _, pos := _, after := _, guard := none }) (v := .slice (some ⟨ba, oa, none⟩) A.length ca) rfl (by kernel_rfl) (by kernel_rfl) (by kernel_rfl) (fun _ _ _ h => h) (Or.inl ⟨by rfl, fun wx hx => by have h1 := (cellC ((unhide HCA).ext hx)).2.1; go_simp⟩) HS ?_
        simp only [Act.put, List.setIfInBounds_toArray, List.set_cons_zero, List.set_cons_succ]
        refine wpAnyH_take (i := 2) (oi := { dst := some 56, op := Op.move (Operand.tmp 5), type := _, pos := _, after := _, guard := none }) (v := .int .i64 (k : Int)) rfl (by kernel_rfl) (by kernel_rfl) (by kernel_rfl) (fun _ _ _ h => h) (Or.inl ⟨by rfl, fun _ _ => rfl⟩) HS ?_
        simp only [Act.put, List.setIfInBounds_toArray, List.set_cons_zero, List.set_cons_succ]
        refine wpAnyH_take (i := 3) (oi := { dst := some 57, op := Op.indexAddr _ (Operand.tmp 55) (Operand.tmp 56), type := _, pos := _, after := _, guard := none }) (v := .pointer (some ⟨ba, oa + k * 16, none⟩)) rfl (by kernel_rfl) (by kernel_rfl) (by kernel_rfl) (fun _ _ _ h => h) (Or.inl ⟨by rfl, fun wx hx => by go_simp⟩) HS ?_
        simp only [Act.put, List.setIfInBounds_toArray, List.set_cons_zero, List.set_cons_succ]
        refine wpAnyH_take (i := 4) (oi := { dst := some 58, op := Op.load _ (Operand.tmp 57), type := _, pos := _, after := _, guard := none }) (v := .agg (insA x)) rfl (by kernel_rfl) (by kernel_rfl) (by kernel_rfl) (fun _ _ _ h => h) (yieldsIf_load_mid (by rfl) 39 (.tmp 57) rfl ba (oa + k * 16) rfl (insA x).toList _ (fun wx hx => rng_ext (unhide HRA) hx) Try.underlying39 rfl size16) HS ?_
        simp only [Act.put, List.setIfInBounds_toArray, List.set_cons_zero, List.set_cons_succ]
        refine wpAnyH_take (i := 5) (oi := { dst := some 59, op := Op.fieldAddr _ (Operand.tmp 3) 1, type := _, pos := _, after := _, guard := none }) (v := .pointer (some ⟨w.heap.size + 1, 1, none⟩)) rfl (by kernel_rfl) (by kernel_rfl) (by kernel_rfl) (fun _ _ _ h => h) (Or.inl ⟨by rfl, fun _ _ => rfl⟩) HS ?_
        simp only [Act.put, List.setIfInBounds_toArray, List.set_cons_zero, List.set_cons_succ]
        refine wpAnyH_take (i := 6) (oi := { dst := some 60, op := Op.load _ (Operand.tmp 59), type := _, pos := _, after := _, guard := none }) (v := .slice (some ⟨bb, ob, none⟩) A.length cb) rfl (by kernel_rfl) (by kernel_rfl) (by kernel_rfl) (fun _ _ _ h => h) (Or.inl ⟨by rfl, fun wx hx => by have h1 := (cellC ((unhide HCB).ext hx)).2.1; go_simp⟩) HS ?_
        simp only [Act.put, List.setIfInBounds_toArray, List.set_cons_zero, List.set_cons_succ]
        refine wpAnyH_take (i := 7) (oi := { dst := some 61, op := Op.move (Operand.tmp 5), type := _, pos := _, after := _, guard := none }) (v := .int .i64 (k : Int)) rfl (by kernel_rfl) (by kernel_rfl) (by kernel_rfl) (fun _ _ _ h => h) (Or.inl ⟨by rfl, fun _ _ => rfl⟩) HS ?_
        simp only [Act.put, List.setIfInBounds_toArray, List.set_cons_zero, List.set_cons_succ]
        refine wpAnyH_take (i := 8) (oi := { dst := some 62, op := Op.indexAddr _ (Operand.tmp 60) (Operand.tmp 61), type := _, pos := _, after := _, guard := none }) (v := .pointer (some ⟨bb, ob + k * 16, none⟩)) rfl (by kernel_rfl) (by kernel_rfl) (by kernel_rfl) (fun _ _ _ h => h) (Or.inl ⟨by rfl, fun wx hx => by go_simp⟩) HS ?_
        simp only [Act.put, List.setIfInBounds_toArray, List.set_cons_zero, List.set_cons_succ]
        refine wpAnyH_take (i := 9) (oi := { dst := some 63, op := Op.load _ (Operand.tmp 62), type := _, pos := _, after := _, guard := none }) (v := .agg (insA y)) rfl (by kernel_rfl) (by kernel_rfl) (by kernel_rfl) (fun _ _ _ h => h) (yieldsIf_load_mid (by rfl) 39 (.tmp 62) rfl bb (ob + k * 16) rfl (insA y).toList _ (fun wx hx => rng_ext (unhide HRB) hx) Try.underlying39 rfl size16) HS ?_
        simp only [Act.put, List.setIfInBounds_toArray, List.set_cons_zero, List.set_cons_succ]
        refine wpAnyH_take (i := 10) (oi := { dst := some 64, op := Op.binOp BinOp.neq _ (Operand.tmp 58) (Operand.tmp 63) _, type := _, pos := _, after := _, guard := none }) (v := .bool false) rfl (by kernel_rfl) (by kernel_rfl) (by kernel_rfl) (fun _ _ _ h => h) (Or.inl ⟨by rfl, fun wx hx => exec_ne _ _ (.tmp 58) (.tmp 63) _ _ _ _ true rfl rfl rfl grdI (unhide HEQ wx)⟩) HS ?_
        simp only [Act.put, List.setIfInBounds_toArray, List.set_cons_zero, List.set_cons_succ]
        refine wpAnyH_done (by kernel_rfl) ?_ _
        refine NoPanic.normal ?_
        have HX9 := hide ((unhide XW).trans HS)
        go_wp2
        go_roundw
        case rel => exact ⟨k + 1, by omega, by go_num, unhide HX9, unhide ET⟩
        case measure => simp [intOf]; omega
    · obtain rfl : k = A.length := by omega
      go_wp2
      go_ret
      rw [unhide EQ, unhide HS0]
      exact ⟨rfl, unhide X⟩
end Go.Proofs.Ytfoffnbkfnbglaa

/-
  Codes: helpers of the laws that hold bytes and codes against the document's.
-/
namespace Go.Proofs.Ytfoffnbkfnbglaa
open Go.RowKit
set_option linter.unusedVariables false
set_option linter.unusedSimpArgs false

section
variable {P : Program} {w : World} {ops : Array Oper} {rest : List Oper} {o : Oper} {a : Act} {Q : Exit → Act → World → Prop}
theorem wpList_load_row_wantC (hw : Region.wanted o (yielded ops a.tmps) = true) (ty : TypeId) (x : Operand) (ho : o.op = .load ty x)
    (g : Nat) (hx : a.eval x = .pointer (some ⟨g, 0, none⟩)) (t : TypeId) (cs : Array Value) (fr : Nat × Nat) (d : TypeDesc) (hg : w.heap[g]? = some (.cells cs t fr))
    (hu : P.underlying ty = some d) (hd : (match d with | .struct _ | .array _ _ => true | _ => false) = true) (hi : (P.info? ty).map (·.size) = some cs.size)
    (h : wpList P ops Q rest (a.put o.dst (.agg cs)) w) : wpList P ops Q (o :: rest) a w :=
  BigFrame.wpList_want hw fun _ hK => wp_load_row ty x ho g hx t cs fr d hg hu hd hi (hK _ _ h)
end
theorem few_readB {w : World} {b : Nat} {am : Option Addr} {cm : Nat} {L : List (Nat → Int)} (h : OI w b (.slice am (L.length + 1) cm) (L ++ [i77])) : IR w (.slice am L.length cm) L := by
  have h2 := h.ir.take L.length (by simp)
  simpa using h2
def FewR (F : Cod) (wx : World) (e : Ending) (w' : World) : Prop := ∃ am cm, e = .returned (.agg #[.int .i64 (F).stage, .slice am F.ins.length cm, .int .i64 (F).regs, .int .i64 (F).attr, .int .i64 (F).unif, .int .i64 (F).vary]) ∧ OI w' wx.heap.size (.slice am (F.ins.length + 1) cm) (F.ins ++ [i77]) ∧ Ext wx w'
theorem dec_may {bs : List Int} (h : decB bs = true) : mayP (codA bs) = true := by
  unfold decB at h
  simp only [Bool.and_eq_true] at h
  exact h.2.2.2.2.2
theorem codA_ok (bs : List Int) (hB : Byt bs) : ∀ I ∈ (codA bs).ins, OkI I := by
  intro I hI
  simp only [codA, insL, List.mem_map, List.mem_range] at hI
  obtain ⟨j, _, rfl⟩ := hI
  have hr := fun k => rdV_in bs (insS bs 28 0 j).1 (insS bs 28 0 j).2 k hB
  refine ⟨fun k hk => ?_, fun k hk => ?_, fun k hk => ?_⟩
  · have := hr k
    simp only [insX, ofV]
    rw [if_neg (by omega)]
    omega
  · simp only [insX, ofV]
    rw [if_pos (by omega)]
    unfold sg
    simp [IntKind.wrap, IntKind.bits, IntKind.signed]
    omega
  · have := hr (12 + k)
    simp only [insX, ofV]
    rw [if_neg (by omega)]
    omega
theorem bytP_byt (C : Cod) : Byt (bytP C) := bytL_byt _
theorem infoU8C : (Try.prog.info? 5).map (fun i => (i.zero, i.size, i.bytes)) = some (some (.int .u8 0), 1, 1) := by kernel_rfl
theorem own_ext {k : IntKind} {w w' : World} {base : Nat} {e : TypeId} {v : Value} {xs : List Int} (h : Own k w base e v xs) (hx : Ext w w') : Own k w' base e v xs := by
  refine World.ownsRow.kept h (extG hx none) ?_
  cases v.ownBlock <;> simp
theorem str_ofC (ao : Option Addr) (n cap : Nat) (xs : List Int) (w : World) (hr : Row .u8 w (.slice ao n cap) xs) (hl : n = xs.length) : (convert 22 9 (.slice ao n cap)).run Try.prog w = .ok (.string (strOfNums xs)) w := by
  subst hl
  rcases hr with ⟨rfl, ao', cap', hv, _⟩ | ⟨hne, b, off, cap', hv, _, _, hc⟩
  · cases hv
    exact run_convert_bytes_zero w 22 5 Try.underlying22 Try.underlying5 ao cap 9 Try.underlying9
  · cases hv
    exact run_convert_bytes_arg (P := Try.prog) w 22 5 Try.underlying22 Try.underlying5 b off xs.length cap xs rfl hc 9 Try.underlying9
theorem equal_sameC (ao ap : Option Addr) (cap cbp : Nat) (xs : List Int) (w : World) (hr : Row .u8 w (.slice ao xs.length cap) xs) (hs : Row .u8 w (.slice ap xs.length cbp) xs) :
    Calls Try.prog 8 #[.slice ao xs.length cap, .slice ap xs.length cbp] w fun e w' => e = .returned (.bool true) ∧ w' = w := by
  have h1 := str_ofC ao xs.length cap xs w hr rfl
  have h2 := str_ofC ap xs.length cbp xs w hs rfl
  generalize strOfNums xs = s at *
  clear hr hs
  go_enter Try.func8, Try.ntmps8
  go_wp2
  go_ret
  exact ⟨by simp, rfl⟩

theorem OI.each {w : World} {base n cap : Nat} {ao : Option Addr} {L : List (Nat → Int)} (h : OI w base (.slice ao n cap) L) : ∀ i, i < L.length → ∃ g, ao = some ⟨g, 0, none⟩ ∧ base ≤ g ∧ g < w.heap.size ∧ w.there g (i * 16) 16 := by
  intro i hi
  rcases h.2 with ⟨_, h0⟩ | ⟨g, cp, cur, e, hb, hg, hnc, hcm, hcs, _⟩
  · omega
  · refine ⟨g, (Value.slice.inj e).1, hb, (Array.getElem?_eq_some_iff.1 hg).1, fun j hj => ?_⟩
    have hc : i * 16 + j < cur.size := by rw [hcs]; omega
    have hB : Blk w g cur 39 := hg
    refine ⟨?_, hB.free _⟩
    rw [hB.cell (i := i * 16 + j) (v := cur[i * 16 + j]) (by simp [hc])]
    rfl
theorem sameC_refl (C : Cod) : sameC C C = true := by rw [sameC_iff]; exact ⟨rfl, rfl, rfl, rfl, rfl, rfl, fun _ _ _ _ => rfl⟩
theorem Blk.cellsO {w : World} {b r o : Nat} {cs : Array Value} {t : TypeId} (vs : List Value) (h : Blk w b cs t) (hne : b ≠ r) : Blk (w.setCells r o vs) b cs t := (World.heap_setCells_other w r o vs h.lt hne).trans h
theorem ir_none0 (w : World) : IR w (.slice none 0 0) [] := ⟨none, 0, rfl, fun _ => rfl, Nat.le_refl _, Nat.zero_le _, fun i hi => by simp at hi⟩
theorem thereX {w w' : World} {g o n : Nat} (h : w.there g o n) (hx : Ext w w') : w'.there g o n := fun j hj => by
  obtain ⟨h1, h2⟩ := h j hj
  have hb : g < w.heap.size := by
    cases hc : w.cell? ⟨g, o + j, none⟩ with
    | none => rw [hc] at h1; cases h1
    | some v => exact World.block_lt_of_cell? w ⟨g, o + j, none⟩ hc
  have hh := hx.block g hb
  refine ⟨?_, ?_⟩
  · rw [World.cell?_of_block (w := w) hh]; exact h1
  · have : w'.frozen? ⟨g, o + j, none⟩ = w.frozen? ⟨g, o + j, none⟩ := by simp only [World.frozen?, hh]
    rw [this]; exact h2
theorem Own.addr9 {k : IntKind} {w : World} {base : Nat} {e : TypeId} {ao : Option Addr} {n cap : Nat} {xs : List Int} (h : Own k w base e (.slice ao n cap) xs) (hne : 0 < xs.length) : ∃ g, ao = some ⟨g, 0, none⟩ ∧ base ≤ g := by
  rcases h.2 with ⟨he, h0⟩ | ⟨g, cp, cur, he, hb, _⟩
  · omega
  · exact ⟨g, (Value.slice.inj he).1, hb⟩
theorem extCells {w : World} {b : Nat} (hb : w.heap.size ≤ b) : ∀ (vs : List Value) (o : Nat) (w1 : World), Ext w w1 → Ext w (w1.setCells b o vs)
  | [], _, _, h => h
  | v :: r, o, w1, h => extCells hb r (o + 1) (w1.setCell ⟨b, o, none⟩ v) (extSet h hb)
end Go.Proofs.Ytfoffnbkfnbglaa

/-
  The document's low, Bytes.
-/
namespace Go.Proofs.Ytfoffnbkfnbglaa
open Go.RowKit
set_option linter.unusedVariables false
set_option linter.unusedSimpArgs false

theorem low4 (x : Int) : low x 4 = [x % 256, x / 256 % 256, x / 65536 % 256, x / 16777216 % 256] := by
  simp only [low]
  rw [show x / 256 / 256 / 256 = x / 16777216 by omega, show x / 256 / 256 = x / 65536 by omega]
theorem low_lo (x : Int) : low (lo32 x) 4 = low x 4 := by
  rw [low4, low4]
  unfold lo32
  congr 1
  · omega
  congr 1
  · omega
  congr 1
  · omega
  congr 1
  omega
theorem bytL_lo (l : List Int) : bytL (l.map lo32) = bytL l := by
  unfold bytL
  rw [List.flatMap_map]
  congr 1
  funext x
  exact low_lo x
theorem bytP_raw (C : Cod) : bytP C = bytL (rawL C) := by
  unfold bytP
  rw [numL_raw, bytL_lo]
theorem inL_len (I : Nat → Int) : (inL I).length = 16 := rfl
theorem inL_at (I : Nat → Int) (k : Nat) (hk : k < 16) : (inL I)[k]? = some (I k) := by
  rcases (by omega : k = 0 ∨ k = 1 ∨ k = 2 ∨ k = 3 ∨ k = 4 ∨ k = 5 ∨ k = 6 ∨ k = 7 ∨ k = 8 ∨ k = 9 ∨ k = 10 ∨ k = 11 ∨ k = 12 ∨ k = 13 ∨ k = 14 ∨ k = 15) with rfl | rfl | rfl | rfl | rfl | rfl | rfl | rfl | rfl | rfl | rfl | rfl | rfl | rfl | rfl | rfl <;> rfl
theorem byt_step (A l : List Int) (k : Nat) (x : Int) (h : l[k]? = some x) : bytL (A ++ l.take k) ++ low x 4 = bytL (A ++ l.take (k + 1)) := by
  obtain ⟨hk, e⟩ := List.getElem?_eq_some_iff.1 h
  rw [List.take_succ_eq_append_getElem hk, e, ← List.append_assoc, bytL_snoc]
theorem hdL_len (C : Cod) (n : Nat) : (hdL C n).length = 7 := rfl
def hdX (C : Cod) (n : Nat) (k : Nat) : Int := (hdL C n).getD k 0
theorem hdX_at (C : Cod) (n k : Nat) (hk : k < 7) : (hdL C n)[k]? = some (hdX C n k) := by
  rcases (by omega : k = 0 ∨ k = 1 ∨ k = 2 ∨ k = 3 ∨ k = 4 ∨ k = 5 ∨ k = 6) with rfl | rfl | rfl | rfl | rfl | rfl | rfl <;> rfl
theorem idx7 (x : Nat → Int) (k : Nat) (hk : k < 7) (w : World) : (Instr.index 52 (.agg #[.int .i64 (x 0), .int .i64 (x 1), .int .i64 (x 2), .int .i64 (x 3), .int .i64 (x 4), .int .i64 (x 5), .int .i64 (x 6)]) (.int .i64 (k : Int))).run Try.prog w = .ok (.int .i64 (x k)) w := by
  rcases (by omega : k = 0 ∨ k = 1 ∨ k = 2 ∨ k = 3 ∨ k = 4 ∨ k = 5 ∨ k = 6) with rfl | rfl | rfl | rfl | rfl | rfl | rfl
  all_goals kernel_rfl
theorem idx8 (x : Nat → Int) (k : Nat) (hk : k < 8) (w : World) : (Instr.index 86 (.agg #[.int .i64 (x 0), .int .i64 (x 1), .int .i64 (x 2), .int .i64 (x 3), .int .i64 (x 4), .int .i64 (x 5), .int .i64 (x 6), .int .i64 (x 7)]) (.int .i64 (k : Int))).run Try.prog w = .ok (.int .i64 (x k)) w := by
  rcases (by omega : k = 0 ∨ k = 1 ∨ k = 2 ∨ k = 3 ∨ k = 4 ∨ k = 5 ∨ k = 6 ∨ k = 7) with rfl | rfl | rfl | rfl | rfl | rfl | rfl | rfl
  all_goals kernel_rfl
theorem idxV (x : Nat → Int) (k : Nat) (hk : k < 4) (w : World) : (Instr.index 36 (.agg #[.int .i32 (x 0), .int .i32 (x 1), .int .i32 (x 2), .int .i32 (x 3)]) (.int .i64 (k : Int))).run Try.prog w = .ok (.int .i32 (x k)) w := by
  rcases (by omega : k = 0 ∨ k = 1 ∨ k = 2 ∨ k = 3) with rfl | rfl | rfl | rfl
  all_goals kernel_rfl
theorem idxP (x : Nat → Int) (k : Nat) (hk : k < 4) (w : World) : (Instr.index 37 (.agg #[.int .i64 (x 0), .int .i64 (x 1), .int .i64 (x 2), .int .i64 (x 3)]) (.int .i64 (k : Int))).run Try.prog w = .ok (.int .i64 (x k)) w := by
  rcases (by omega : k = 0 ∨ k = 1 ∨ k = 2 ∨ k = 3) with rfl | rfl | rfl | rfl
  all_goals kernel_rfl

set_option maxRecDepth 10000 in
set_option maxHeartbeats 4000000 in
theorem refLow_any (x : Int) (w : World) : Calls Try.prog 45 #[.int .i64 x] w fun e w' => ∃ g, e = .returned (.slice (some ⟨g, 0, none⟩) 4 4) ∧ Row .u8 w' (.slice (some ⟨g, 0, none⟩) 4 4) (low x 4) ∧ Ext w w' := by
  have HR : Hid (Row .u8 (w.alloc (.cells #[.int .u8 (x % 256), .int .u8 (x / 256 % 256), .int .u8 (x / 65536 % 256), .int .u8 (x / 16777216 % 256)] 5)) (.slice (some ⟨w.heap.size, 0, none⟩) 4 4) (low x 4)) := by
    rw [Hid, low4]
    exact (Own.block (k := .u8) (e := 5) (base := 0) w [x % 256, x / 256 % 256, x / 65536 % 256, x / 16777216 % 256] (Nat.zero_le _) (by unfold maxLen; simp)).row
  go_enter Try.func45, Try.ntmps45
  go_wp2
  go_ret
  exact ⟨_, rfl, unhide HR, (Ext.refl w).alloc _⟩

/-- The bytes so far, and what stays. -/
def BS (C : Cod) (ao : Option Addr) (ca : Nat) (w : World) (bv : Value) (B : List Int) (wr : World) : Prop := ∃ (l : Nat) (bo : Option Addr) (cb : Nat), bv = .slice bo l cb ∧ Own .u8 wr w.heap.size 5 (.slice bo l cb) (bytL B) ∧ Blk wr w.heap.size #[.int .i64 (C).stage, .slice ao C.ins.length ca, .int .i64 (C).regs, .int .i64 (C).attr, .int .i64 (C).unif, .int .i64 (C).vary] 26 ∧ Ext w wr

set_option maxRecDepth 10000 in
set_option maxHeartbeats 8000000 in
theorem refBytes_any (C : Cod) (v : Value) (w : World) (h : IR w v C.ins) (hok : ∀ I ∈ C.ins, OkI I) (hm : C.ins.length ≤ 4096) : Calls Try.prog 29 #[.agg #[.int .i64 (C).stage, v, .int .i64 (C).regs, .int .i64 (C).attr, .int .i64 (C).unif, .int .i64 (C).vary]] w fun e w' => ∃ bo l cb, e = .returned (.slice bo l cb) ∧ Row .u8 w' (.slice bo l cb) (bytP C) ∧ Ext w w' := by
  have HV := hide h
  obtain ⟨ao, ca, rfl, hn0, hlc, hcm, hat⟩ := h
  clear hat hn0
  obtain ⟨A0, hA0⟩ : ∃ A : List Int, A = [] := ⟨_, rfl⟩
  have HA0 := hide hA0
  have HS0 : Hid (BS C ao ca w (.slice none 0 0) (A0 ++ (hdL C C.ins.length).take 0) (w.alloc (.cells #[.int .i64 (C).stage, .slice ao C.ins.length ca, .int .i64 (C).regs, .int .i64 (C).attr, .int .i64 (C).unif, .int .i64 (C).vary] 26))) := ⟨0, none, 0, rfl, by rw [hA0]; exact Own.nil _ _ _ _, Blk.new _ _ _, (Ext.refl w).alloc _⟩
  clear hA0
  have HRAW : Hid (bytP C = bytL (hdL C C.ins.length ++ (C.ins.take C.ins.length).flatMap inL)) := by rw [Hid, bytP_raw, List.take_length]; rfl
  have HBL := hide bytL_len
  obtain ⟨z0, z1, z2, z3, z4, z5⟩ := cellC (unhide HS0).choose_spec.choose_spec.choose_spec.2.2.1
  obtain ⟨i0, hi, hz0, hz1, hz2⟩ := info_parts infoU8C
  go_enter Try.func29, Try.ntmps29
  go_wp2
  clear z0 z1 z2 z3 z4 z5
  go_loopw [3, 28] (fun bv iv wr => ∃ k : Nat, k ≤ 7 ∧ iv = .int .i64 (k : Int) ∧ BS C ao ca w bv (A0 ++ (hdL C C.ins.length).take k) wr) (fun _ iv _ => 7 - (intOf iv).toNat)
  case atStart => exact ⟨0, by omega, rfl, unhide HS0⟩
  case round =>
    clear HS0
    obtain ⟨k, hk, rfl, hbs⟩ := hrel
    by_cases hlt : k < 7
    · have hk7 : (k : Int) < 7 := by omega
      obtain ⟨x, hx⟩ : ∃ x, x = hdX C C.ins.length k := ⟨_, rfl⟩
      have HXK := hide (hdX_at C C.ins.length k hlt)
      rw [← hx] at HXK
      have xk : ∀ wx, (Instr.index 52 (.agg #[.int .i64 1128353872, .int .i64 C.stage, .int .i64 C.regs, .int .i64 C.attr, .int .i64 C.unif, .int .i64 C.vary, .int .i64 (C.ins.length : Int)]) (.int .i64 (k : Int))).run Try.prog wx = .ok (.int .i64 x) wx := fun wx => by rw [hx]; exact idx7 (hdX C C.ins.length) k hlt wx
      clear hx
      obtain ⟨l, bo, cb, rfl, hown, hblk, hx⟩ := hbs
      have DD := hide (And.intro hown (And.intro hblk hx))
      clear hown hblk hx
      go_wp2_with (go_at_call 9999)
      refine (refLow_any x _).mono ?_
      rintro e w2 ⟨g2, rfl, hrow, hx2⟩
      have hown2 := own_ext (unhide DD).1 hx2
      have hblk2 := (unhide DD).2.1.ext hx2
      have hxx2 := (unhide DD).2.2.trans hx2
      clear DD hx2
      have HB1 := hide (unhide HBL (A0 ++ (hdL C C.ins.length).take (k)))
      go_wp2_with (at_builtin; refine wpList_append_Own rfl (.tmp 31) (.tmp 33) 22 rfl w.heap.size 5 i0 .u8 1 Try.underlying22 hi hz0 hz1 hz2 _ (bytL (A0 ++ (hdL C C.ins.length).take (k))) rfl hown2 _ (low x 4) rfl hrow ?c1 ?c2 ?c3 ?_)
      case c1 => rw [unhide HB1, low_length]; simp [hdL_len, unhide HA0]; unfold maxLen; omega
      case c2 => rw [unhide HB1, low_length]; simp [hdL_len, unhide HA0]; omega
      case c3 => exact hxx2.size
      intro v3 w3 hown3 hg3
      rw [byt_step (A0) (hdL C C.ins.length) (k) x (unhide HXK)] at hown3
      have hx3 : Ext w w3 := hxx2.grown hg3 hxx2.size (fun g e => (World.ownsRow.lt hown2 g e).1)
      have hblk3 := hblk2.grownO hg3 (own_neB hown2 hblk2 (by decide))
      obtain ⟨bo3, cb3, e3⟩ := hown3.shape
      obtain ⟨l3, hl3⟩ : ∃ l, l = (bytL (A0 ++ (hdL C C.ins.length).take (k + 1))).length := ⟨_, rfl⟩
      rw [← hl3] at e3
      subst e3
      clear hl3
      have D3 := hide (And.intro hown3 (And.intro hblk3 hx3))
      clear hown3 hblk3 hx3 hown2 hblk2 hxx2 hrow hg3 HB1
      go_wp2
      go_roundw
      case rel => exact ⟨k + 1, by omega, by go_num, l3, bo3, cb3, rfl, (unhide D3).1, (unhide D3).2.1, (unhide D3).2.2⟩
      case measure => simp [intOf]; omega
    · obtain rfl : k = 7 := by omega
      rw [show ((7 : Nat) : Int) = (7 : Int) from rfl]
      have e : A0 ++ (hdL C C.ins.length).take 7 = hdL C C.ins.length ++ (C.ins.take 0).flatMap inL := by rw [unhide HA0]; simp [hdL]
      rw [e] at hbs
      have z1 : wr.cell? ⟨w.heap.size, 1, none⟩ = some (.slice ao C.ins.length ca) := hbs.choose_spec.choose_spec.choose_spec.2.2.1.cell rfl
      have HBS := hide hbs
      clear hbs e
      go_wp2
      clear z1
      go_loopw [3, 39] (fun bv iv wr => ∃ j : Nat, j ≤ C.ins.length ∧ iv = .int .i64 (j : Int) ∧ BS C ao ca w bv (hdL C C.ins.length ++ (C.ins.take j).flatMap inL) wr) (fun _ iv _ => C.ins.length - (intOf iv).toNat)
      case atStart => exact ⟨0, Nat.zero_le _, rfl, unhide HBS⟩
      case round =>
        clear HBS
        obtain ⟨j, hj, rfl, hbs⟩ := hrel
        by_cases hjt : j < C.ins.length
        · have hji : (j : Int) < (C.ins.length : Int) := by omega
          have hxw : Ext w wr := hbs.choose_spec.choose_spec.choose_spec.2.2.2
          obtain ⟨_, _, e1, _, _, _, hat⟩ := (unhide HV).ext hxw
          have e1' := (Value.slice.inj e1).1
          subst e1'
          obtain ⟨b, off, rfl, hrg⟩ := hat j hjt
          have HRG := hide hrg
          have HNX : Hid (hdL C C.ins.length ++ (C.ins.take (j + 1)).flatMap inL = (hdL C C.ins.length ++ (C.ins.take j).flatMap inL) ++ inL C.ins[j]) := by rw [Hid, List.take_succ_eq_append_getElem hjt, List.flatMap_append, List.append_assoc]; simp
          have HAL : Hid ((hdL C C.ins.length ++ (C.ins.take j).flatMap inL).length = 7 + 16 * j) := by rw [Hid, List.length_append, flat_len, hdL_len, List.length_take]; omega
          have HOK := hide (hok C.ins[j] (List.getElem_mem hjt))
          clear hrg hat e1
          obtain ⟨A, hA⟩ : ∃ A, A = hdL C C.ins.length ++ (C.ins.take j).flatMap inL := ⟨_, rfl⟩
          rw [← hA] at HNX HAL hbs
          clear hA
          generalize C.ins[j] = I at *
          obtain ⟨l, bo, cb, rfl, hown, hblk, hx⟩ := hbs
          have HBI := hide (Blk.new wr (insA I) 39)
          have HBS : Hid (BS C (some ⟨b, off, none⟩) ca w (.slice bo l cb) (A ++ (inL I).take 0) (wr.alloc (.cells (insA I) 39))) := ⟨l, bo, cb, rfl, by rw [List.take_zero, List.append_nil]; exact hown.alloc _, hblk.alloc _, hx.alloc _⟩
          clear hown hblk hx hxw
          go_upto_region 10 with (first
            | (refine wpList_load_mid rfl 39 (.tmp 41) rfl b (off + j * 16) rfl (insA I).toList _ (unhide HRG) Try.underlying39 rfl size16 ?_; rw [Array.toArray_toList])
            | refine wpList_storeLast rfl 39 (.tmp 7) (.tmp 42) rfl _ wr.heap.size rfl rfl (insA I) rfl 16 size16 rfl rfl (insA_one I) ?_)
          clear HRG
          generalize wr.alloc (.cells (insA I) 39) = w4 at HBI HBS ⊢
          generalize wr.heap.size = Bi at *
          obtain ⟨c0, c1, c2, c3, c4, c5, c6, c7⟩ := cellJ (unhide HBI)
          go_wp2
          clear c0 c1 c2 c3 c4 c5 c6 c7
          go_loopw [3, 60] (fun bv iv wr => ∃ k : Nat, k ≤ 8 ∧ iv = .int .i64 (k : Int) ∧ Blk wr Bi (insA I) 39 ∧ BS C (some ⟨b, off, none⟩) ca w bv (A ++ (inL I).take (k)) wr) (fun _ iv _ => 8 - (intOf iv).toNat)
          case atStart => exact ⟨0, by omega, rfl, unhide HBI, unhide HBS⟩
          case round =>
            clear HBI HBS
            obtain ⟨k, hk, rfl, hbi, hbs⟩ := hrel
            have HBI := hide hbi
            clear hbi
            by_cases hlt : k < 8
            · have hkN : (k : Int) < 8 := by omega
              obtain ⟨x, hx⟩ : ∃ x, x = I (k) := ⟨_, rfl⟩
              have HXK := hide (inL_at I (k) (by omega))
              rw [← hx] at HXK
              have xk : ∀ wx, (Instr.index 86 (.agg #[.int .i64 (I 0), .int .i64 (I 1), .int .i64 (I 2), .int .i64 (I 3), .int .i64 (I 4), .int .i64 (I 5), .int .i64 (I 6), .int .i64 (I 7)]) (.int .i64 (k : Int))).run Try.prog wx = .ok (.int .i64 x) wx := fun wx => by rw [hx]; exact idx8 (fun i => I (i)) k hlt wx
              clear hx
              obtain ⟨l, bo, cb, rfl, hown, hblk, hx⟩ := hbs
              have DD := hide (And.intro hown (And.intro hblk hx))
              clear hown hblk hx
              go_wp2_with (go_at_call 9999)
              refine (refLow_any x _).mono ?_
              rintro e w2 ⟨g2, rfl, hrow, hx2⟩
              have hown2 := own_ext (unhide DD).1 hx2
              have hblk2 := (unhide DD).2.1.ext hx2
              have hxx2 := (unhide DD).2.2.trans hx2
              have hbi2 := (unhide HBI).ext hx2
              clear DD hx2
              have HB1 := hide (unhide HBL (A ++ (inL I).take (k)))
              go_wp2_with (at_builtin; refine wpList_append_Own rfl (.tmp 63) (.tmp 65) 22 rfl w.heap.size 5 i0 .u8 1 Try.underlying22 hi hz0 hz1 hz2 _ (bytL (A ++ (inL I).take (k))) rfl hown2 _ (low x 4) rfl hrow ?c1 ?c2 ?c3 ?_)
              case c1 => rw [unhide HB1, low_length]; simp [unhide HAL, inL_len]; unfold maxLen; omega
              case c2 => rw [unhide HB1, low_length]; simp [unhide HAL, inL_len]; omega
              case c3 => exact hxx2.size
              intro v3 w3 hown3 hg3
              rw [byt_step (A) (inL I) (k) x (unhide HXK)] at hown3
              have hx3 : Ext w w3 := hxx2.grown hg3 hxx2.size (fun g e => (World.ownsRow.lt hown2 g e).1)
              have hblk3 := hblk2.grownO hg3 (own_neB hown2 hblk2 (by decide))
              have hbi3 := hbi2.grownO hg3 (own_neB hown2 hbi2 (by decide))
              obtain ⟨bo3, cb3, e3⟩ := hown3.shape
              obtain ⟨l3, hl3⟩ : ∃ l, l = (bytL (A ++ (inL I).take (k + 1))).length := ⟨_, rfl⟩
              rw [← hl3] at e3
              subst e3
              clear hl3
              have D3 := hide (And.intro hown3 (And.intro hblk3 (And.intro hbi3 hx3)))
              clear hown3 hblk3 hx3 hown2 hblk2 hxx2 hrow hg3 HB1 hbi3 hbi2
              go_wp2
              go_roundw
              case rel => exact ⟨k + 1, by omega, by go_num, (unhide D3).2.2.1, l3, bo3, cb3, rfl, (unhide D3).1, (unhide D3).2.1, (unhide D3).2.2.2⟩
              case measure => simp [intOf]; omega
            · obtain rfl : k = 8 := by omega
              rw [show ((8 : Nat) : Int) = (8 : Int) from rfl]
              have HBS := hide hbs
              clear hbs
              obtain ⟨c0, c1, c2, c3⟩ := cellM (unhide HBI)
              go_wp2
              clear c0 c1 c2 c3
              go_loopw [3, 70] (fun bv iv wr => ∃ k : Nat, k ≤ 4 ∧ iv = .int .i64 (k : Int) ∧ Blk wr Bi (insA I) 39 ∧ BS C (some ⟨b, off, none⟩) ca w bv (A ++ (inL I).take (8 + k)) wr) (fun _ iv _ => 4 - (intOf iv).toNat)
              case atStart => exact ⟨0, by omega, rfl, unhide HBI, unhide HBS⟩
              case round =>
                clear HBI HBS
                obtain ⟨k, hk, rfl, hbi, hbs⟩ := hrel
                have HBI := hide hbi
                clear hbi
                by_cases hlt : k < 4
                · have hkN : (k : Int) < 4 := by omega
                  obtain ⟨x, hx⟩ : ∃ x, x = I (8 + k) := ⟨_, rfl⟩
                  have HXK := hide (inL_at I (8 + k) (by omega))
                  rw [← hx] at HXK
                  have xk : ∀ wx, (Instr.index 36 (.agg #[.int .i32 (I 8), .int .i32 (I 9), .int .i32 (I 10), .int .i32 (I 11)]) (.int .i64 (k : Int))).run Try.prog wx = .ok (.int .i32 x) wx := fun wx => by rw [hx]; exact idxV (fun i => I (8 + i)) k hlt wx
                  have hxr := (unhide HOK).2.1 k hlt
                  rw [← hx] at hxr
                  obtain ⟨hx0, hx1⟩ := hxr
                  clear hx
                  obtain ⟨l, bo, cb, rfl, hown, hblk, hx⟩ := hbs
                  have DD := hide (And.intro hown (And.intro hblk hx))
                  clear hown hblk hx
                  go_wp2_with (go_at_call 9999)
                  refine (refLow_any x _).mono ?_
                  rintro e w2 ⟨g2, rfl, hrow, hx2⟩
                  have hown2 := own_ext (unhide DD).1 hx2
                  have hblk2 := (unhide DD).2.1.ext hx2
                  have hxx2 := (unhide DD).2.2.trans hx2
                  have hbi2 := (unhide HBI).ext hx2
                  clear DD hx2
                  have HB1 := hide (unhide HBL (A ++ (inL I).take (8 + k)))
                  go_wp2_with (at_builtin; refine wpList_append_Own rfl (.tmp 73) (.tmp 76) 22 rfl w.heap.size 5 i0 .u8 1 Try.underlying22 hi hz0 hz1 hz2 _ (bytL (A ++ (inL I).take (8 + k))) rfl hown2 _ (low x 4) rfl hrow ?c1 ?c2 ?c3 ?_)
                  case c1 => rw [unhide HB1, low_length]; simp [unhide HAL, inL_len]; unfold maxLen; omega
                  case c2 => rw [unhide HB1, low_length]; simp [unhide HAL, inL_len]; omega
                  case c3 => exact hxx2.size
                  intro v3 w3 hown3 hg3
                  rw [byt_step (A) (inL I) (8 + k) x (unhide HXK)] at hown3
                  have hx3 : Ext w w3 := hxx2.grown hg3 hxx2.size (fun g e => (World.ownsRow.lt hown2 g e).1)
                  have hblk3 := hblk2.grownO hg3 (own_neB hown2 hblk2 (by decide))
                  have hbi3 := hbi2.grownO hg3 (own_neB hown2 hbi2 (by decide))
                  obtain ⟨bo3, cb3, e3⟩ := hown3.shape
                  obtain ⟨l3, hl3⟩ : ∃ l, l = (bytL (A ++ (inL I).take (8 + k + 1))).length := ⟨_, rfl⟩
                  rw [← hl3] at e3
                  subst e3
                  clear hl3
                  have D3 := hide (And.intro hown3 (And.intro hblk3 (And.intro hbi3 hx3)))
                  clear hown3 hblk3 hx3 hown2 hblk2 hxx2 hrow hg3 HB1 hbi3 hbi2
                  go_wp2
                  go_roundw
                  case rel => exact ⟨k + 1, by omega, by go_num, (unhide D3).2.2.1, l3, bo3, cb3, rfl, (unhide D3).1, (unhide D3).2.1, (unhide D3).2.2.2⟩
                  case measure => simp [intOf]; omega
                · obtain rfl : k = 4 := by omega
                  rw [show ((4 : Nat) : Int) = (4 : Int) from rfl]
                  have HBS := hide hbs
                  clear hbs
                  obtain ⟨c0, c1, c2, c3⟩ := cellP (unhide HBI)
                  go_wp2
                  clear c0 c1 c2 c3
                  go_loopw [3, 81] (fun bv iv wr => ∃ k : Nat, k ≤ 4 ∧ iv = .int .i64 (k : Int) ∧ Blk wr Bi (insA I) 39 ∧ BS C (some ⟨b, off, none⟩) ca w bv (A ++ (inL I).take (12 + k)) wr) (fun _ iv _ => 4 - (intOf iv).toNat)
                  case atStart => exact ⟨0, by omega, rfl, unhide HBI, unhide HBS⟩
                  case round =>
                    clear HBI HBS
                    obtain ⟨k, hk, rfl, hbi, hbs⟩ := hrel
                    have HBI := hide hbi
                    clear hbi
                    by_cases hlt : k < 4
                    · have hkN : (k : Int) < 4 := by omega
                      obtain ⟨x, hx⟩ : ∃ x, x = I (12 + k) := ⟨_, rfl⟩
                      have HXK := hide (inL_at I (12 + k) (by omega))
                      rw [← hx] at HXK
                      have xk : ∀ wx, (Instr.index 37 (.agg #[.int .i64 (I 12), .int .i64 (I 13), .int .i64 (I 14), .int .i64 (I 15)]) (.int .i64 (k : Int))).run Try.prog wx = .ok (.int .i64 x) wx := fun wx => by rw [hx]; exact idxP (fun i => I (12 + i)) k hlt wx
                      clear hx
                      obtain ⟨l, bo, cb, rfl, hown, hblk, hx⟩ := hbs
                      have DD := hide (And.intro hown (And.intro hblk hx))
                      clear hown hblk hx
                      go_wp2_with (go_at_call 9999)
                      refine (refLow_any x _).mono ?_
                      rintro e w2 ⟨g2, rfl, hrow, hx2⟩
                      have hown2 := own_ext (unhide DD).1 hx2
                      have hblk2 := (unhide DD).2.1.ext hx2
                      have hxx2 := (unhide DD).2.2.trans hx2
                      have hbi2 := (unhide HBI).ext hx2
                      clear DD hx2
                      have HB1 := hide (unhide HBL (A ++ (inL I).take (12 + k)))
                      go_wp2_with (at_builtin; refine wpList_append_Own rfl (.tmp 84) (.tmp 86) 22 rfl w.heap.size 5 i0 .u8 1 Try.underlying22 hi hz0 hz1 hz2 _ (bytL (A ++ (inL I).take (12 + k))) rfl hown2 _ (low x 4) rfl hrow ?c1 ?c2 ?c3 ?_)
                      case c1 => rw [unhide HB1, low_length]; simp [unhide HAL, inL_len]; unfold maxLen; omega
                      case c2 => rw [unhide HB1, low_length]; simp [unhide HAL, inL_len]; omega
                      case c3 => exact hxx2.size
                      intro v3 w3 hown3 hg3
                      rw [byt_step (A) (inL I) (12 + k) x (unhide HXK)] at hown3
                      have hx3 : Ext w w3 := hxx2.grown hg3 hxx2.size (fun g e => (World.ownsRow.lt hown2 g e).1)
                      have hblk3 := hblk2.grownO hg3 (own_neB hown2 hblk2 (by decide))
                      have hbi3 := hbi2.grownO hg3 (own_neB hown2 hbi2 (by decide))
                      obtain ⟨bo3, cb3, e3⟩ := hown3.shape
                      obtain ⟨l3, hl3⟩ : ∃ l, l = (bytL (A ++ (inL I).take (12 + k + 1))).length := ⟨_, rfl⟩
                      rw [← hl3] at e3
                      subst e3
                      clear hl3
                      have D3 := hide (And.intro hown3 (And.intro hblk3 (And.intro hbi3 hx3)))
                      clear hown3 hblk3 hx3 hown2 hblk2 hxx2 hrow hg3 HB1 hbi3 hbi2
                      go_wp2
                      go_roundw
                      case rel => exact ⟨k + 1, by omega, by go_num, (unhide D3).2.2.1, l3, bo3, cb3, rfl, (unhide D3).1, (unhide D3).2.1, (unhide D3).2.2.2⟩
                      case measure => simp [intOf]; omega
                    · obtain rfl : k = 4 := by omega
                      rw [show ((4 : Nat) : Int) = (4 : Int) from rfl]
                      have e : (inL I).take (12 + 4) = inL I := by rw [List.take_of_length_le (by rw [inL_len]; omega)]
                      rw [e, ← unhide HNX] at hbs
                      have HBS := hide hbs
                      clear hbs e
                      go_wp2
                      go_roundw
                      case rel => exact ⟨j + 1, by omega, by go_num, unhide HBS⟩
                      case measure => simp [intOf]; omega
        · obtain rfl : j = C.ins.length := by omega
          obtain ⟨l, bo, cb, rfl, hown, hblk, hx⟩ := hbs
          go_wp2
          go_ret
          rw [unhide HRAW]
          exact ⟨bo, l, cb, rfl, hown.row, hx⟩
end Go.Proofs.Ytfoffnbkfnbglaa

/-
  whole: a code is as it was.
-/
namespace Go.Proofs.Ytfoffnbkfnbglaa
open Go.RowKit
set_option linter.unusedVariables false
set_option linter.unusedSimpArgs false

set_option maxRecDepth 10000 in
set_option maxHeartbeats 4000000 in
theorem whole_any (C D : Cod) (am an : Option Addr) (cm cn : Nat) (w : World) (hl : C.ins.length ≤ 5000) (hA : IR w (.slice am (C.ins.length + 1) cm) (C.ins ++ [i77])) (hB : IR w (.slice an D.ins.length cn) D.ins) (hs : sameC C D = true) : Calls Try.prog 27 #[.agg #[.int .i64 (C).stage, .slice am C.ins.length cm, .int .i64 (C).regs, .int .i64 (C).attr, .int .i64 (C).unif, .int .i64 (C).vary], .agg #[.int .i64 (D).stage, .slice an D.ins.length cn, .int .i64 (D).regs, .int .i64 (D).attr, .int .i64 (D).unif, .int .i64 (D).vary]] w fun e w' => e = .returned (.bool true) ∧ Ext w w' := by
  have hA2 : IR w (.slice am C.ins.length cm) C.ins := by
    have h2 := hA.take C.ins.length (by simp)
    simpa using h2
  obtain ⟨_, _, e1, _, hcp, hmx, hat⟩ := hA
  have e1a := (Value.slice.inj e1).1
  have e1c := (Value.slice.inj e1).2.2
  subst e1a
  subst e1c
  obtain ⟨g, off, rfl, hrg⟩ := hat C.ins.length (by simp)
  have hcp1 : C.ins.length + 1 ≤ cm := by simpa using hcp
  unfold maxLen at hmx
  have hel : (C.ins ++ [i77])[C.ins.length]'(by simp) = i77 := by simp
  rw [hel] at hrg
  have HSM := hide hs
  have HX := hide (((Ext.refl w).alloc (.cells #[.int .i64 (C).stage, .slice (some ⟨g, off, none⟩) C.ins.length cm, .int .i64 (C).regs, .int .i64 (C).attr, .int .i64 (C).unif, .int .i64 (C).vary] 26)).alloc (.cells #[.int .i64 (D).stage, .slice an D.ins.length cn, .int .i64 (D).regs, .int .i64 (D).attr, .int .i64 (D).unif, .int .i64 (D).vary] 26))
  have HA : Hid (Blk ((w.alloc (.cells #[.int .i64 (C).stage, .slice (some ⟨g, off, none⟩) C.ins.length cm, .int .i64 (C).regs, .int .i64 (C).attr, .int .i64 (C).unif, .int .i64 (C).vary] 26)).alloc (.cells #[.int .i64 (D).stage, .slice an D.ins.length cn, .int .i64 (D).regs, .int .i64 (D).attr, .int .i64 (D).unif, .int .i64 (D).vary] 26)) w.heap.size #[.int .i64 (C).stage, .slice (some ⟨g, off, none⟩) C.ins.length cm, .int .i64 (C).regs, .int .i64 (C).attr, .int .i64 (C).unif, .int .i64 (C).vary] 26) := (Blk.new w _ _).alloc _
  have HB : Hid (Blk ((w.alloc (.cells #[.int .i64 (C).stage, .slice (some ⟨g, off, none⟩) C.ins.length cm, .int .i64 (C).regs, .int .i64 (C).attr, .int .i64 (C).unif, .int .i64 (C).vary] 26)).alloc (.cells #[.int .i64 (D).stage, .slice an D.ins.length cn, .int .i64 (D).regs, .int .i64 (D).attr, .int .i64 (D).unif, .int .i64 (D).vary] 26)) (w.heap.size + 1) #[.int .i64 (D).stage, .slice an D.ins.length cn, .int .i64 (D).regs, .int .i64 (D).attr, .int .i64 (D).unif, .int .i64 (D).vary] 26) := Blk.here (by simp)
  have HIA := hide (hA2.ext (unhide HX))
  have HIB := hide (hB.ext (unhide HX))
  have HRG := hide (rng_ext hrg (unhide HX))
  clear hrg hat e1 hA2 hB hs hel hcp
  go_enter Try.func27, Try.ntmps27
  go_upto_region 1 with fail
  generalize (w.alloc (.cells #[.int .i64 (C).stage, .slice (some ⟨g, off, none⟩) C.ins.length cm, .int .i64 (C).regs, .int .i64 (C).attr, .int .i64 (C).unif, .int .i64 (C).vary] 26)).alloc (.cells #[.int .i64 (D).stage, .slice an D.ins.length cn, .int .i64 (D).regs, .int .i64 (D).attr, .int .i64 (D).unif, .int .i64 (D).vary] 26) = w2 at HX HA HB HIA HIB HRG ⊢
  have H77 : Hid (∀ wx, Ext w2 wx → wx.cell? ⟨g, off + C.ins.length * 16, none⟩ = some (.int .i64 77)) := fun wx hx => by
    have := rng_ext (unhide HRG) hx 0 (.int .i64 77) rfl
    simpa using this
  clear HRG
  refine wp_region_noPanic ?_
  refine wp_region_held_drew (S := fun wx => Ext w2 wx) (by kernel_rfl) ((Ext.refl _).drew) (fun HS => ?_)
  refine wpAnyH_take (i := 0) (oi := { dst := some 5, op := Op.load _ (Operand.tmp 2), type := _, pos := _, after := _, guard := none }) (v := .agg #[.int .i64 (C).stage, .slice (some ⟨g, off, none⟩) C.ins.length cm, .int .i64 (C).regs, .int .i64 (C).attr, .int .i64 (C).unif, .int .i64 (C).vary]) rfl (by kernel_rfl) (by kernel_rfl) (by kernel_rfl) (fun _ _ _ h => h) (yieldsIf_load_mid (by rfl) 26 (.tmp 2) rfl w.heap.size 0 rfl (#[.int .i64 (C).stage, .slice (some ⟨g, off, none⟩) C.ins.length cm, .int .i64 (C).regs, .int .i64 (C).attr, .int .i64 (C).unif, .int .i64 (C).vary]).toList _ (fun wx hx => ((unhide HA).ext hx).rng) Try.underlying26 rfl size6) HS ?_
  simp only [Act.put, List.setIfInBounds_toArray, List.set_cons_zero, List.set_cons_succ]
  refine wpAnyH_take (i := 1) (oi := { dst := some 6, op := Op.load _ (Operand.tmp 3), type := _, pos := _, after := _, guard := none }) (v := .agg #[.int .i64 (D).stage, .slice an D.ins.length cn, .int .i64 (D).regs, .int .i64 (D).attr, .int .i64 (D).unif, .int .i64 (D).vary]) rfl (by kernel_rfl) (by kernel_rfl) (by kernel_rfl) (fun _ _ _ h => h) (yieldsIf_load_mid (by rfl) 26 (.tmp 3) rfl (w.heap.size + 1) 0 rfl (#[.int .i64 (D).stage, .slice an D.ins.length cn, .int .i64 (D).regs, .int .i64 (D).attr, .int .i64 (D).unif, .int .i64 (D).vary]).toList _ (fun wx hx => ((unhide HB).ext hx).rng) Try.underlying26 rfl size6) HS ?_
  simp only [Act.put, List.setIfInBounds_toArray, List.set_cons_zero, List.set_cons_succ]
  refine wpAnyH_ready (rs := [2]) (by kernel_rfl) (by simp) (AllReadyH.cons (o := { dst := some 7, op := Op.call { callee := Callee.value (Operand.func _), args := #[Operand.tmp 5, Operand.tmp 6], argTypes := _ }, type := _, pos := _, after := _, guard := none }) rfl (fun KK hK => ?_) AllReadyH.nil)
  go_simp
  refine (refSame_any C D _ _ _ ((unhide HIA).ext HS) ((unhide HIB).ext HS)).mono ?_
  rintro e ws ⟨rfl, hxs⟩
  rw [unhide HSM]
  have HS2 := HS.trans hxs
  clear hxs HS
  have HS := HS2
  clear HS2
  refine hK.out _ _ HS (fun _ => ?_)
  clear hK KK
  try simp only [Act.put, List.setIfInBounds_toArray, List.set_cons_zero, List.set_cons_succ]
  refine wpAnyH_take (i := 3) (oi := { dst := some 8, op := Op.move (Operand.tmp 7), type := _, pos := _, after := _, guard := none }) (v := .bool true) rfl (by kernel_rfl) (by kernel_rfl) (by kernel_rfl) (fun _ _ _ h => h) (Or.inl ⟨by rfl, fun _ _ => rfl⟩) HS ?_
  simp only [Act.put, List.setIfInBounds_toArray, List.set_cons_zero, List.set_cons_succ]
  refine wpAnyH_take (i := 4) (oi := { dst := some 9, op := Op.fieldAddr _ (Operand.tmp 2) 1, type := _, pos := _, after := _, guard := some (3, true) }) (v := .pointer (some ⟨w.heap.size, 1, none⟩)) rfl (by kernel_rfl) (by kernel_rfl) (by kernel_rfl) (fun _ _ _ h => h) (Or.inl ⟨by rfl, fun _ _ => rfl⟩) HS ?_
  simp only [Act.put, List.setIfInBounds_toArray, List.set_cons_zero, List.set_cons_succ]
  refine wpAnyH_take (i := 5) (oi := { dst := some 10, op := Op.load _ (Operand.tmp 9), type := _, pos := _, after := _, guard := some (3, true) }) (v := .slice (some ⟨g, off, none⟩) C.ins.length cm) rfl (by kernel_rfl) (by kernel_rfl) (by kernel_rfl) (fun _ _ _ h => h) (Or.inl ⟨by rfl, fun wx hx => by have c := ((unhide HA).ext hx).cell (i := 1) rfl; go_simp⟩) HS ?_
  simp only [Act.put, List.setIfInBounds_toArray, List.set_cons_zero, List.set_cons_succ]
  refine wpAnyH_take (i := 6) (oi := { dst := some 11, op := Op.fieldAddr _ (Operand.tmp 2) 1, type := _, pos := _, after := _, guard := some (3, true) }) (v := .pointer (some ⟨w.heap.size, 1, none⟩)) rfl (by kernel_rfl) (by kernel_rfl) (by kernel_rfl) (fun _ _ _ h => h) (Or.inl ⟨by rfl, fun _ _ => rfl⟩) HS ?_
  simp only [Act.put, List.setIfInBounds_toArray, List.set_cons_zero, List.set_cons_succ]
  refine wpAnyH_take (i := 7) (oi := { dst := some 12, op := Op.load _ (Operand.tmp 11), type := _, pos := _, after := _, guard := some (3, true) }) (v := .slice (some ⟨g, off, none⟩) C.ins.length cm) rfl (by kernel_rfl) (by kernel_rfl) (by kernel_rfl) (fun _ _ _ h => h) (Or.inl ⟨by rfl, fun wx hx => by have c := ((unhide HA).ext hx).cell (i := 1) rfl; go_simp⟩) HS ?_
  simp only [Act.put, List.setIfInBounds_toArray, List.set_cons_zero, List.set_cons_succ]
  refine wpAnyH_take (i := 8) (oi := { dst := some 13, op := Op.call { callee := Callee.builtin Builtin.len, args := #[Operand.tmp 12], argTypes := _ }, type := _, pos := _, after := _, guard := some (3, true) }) (v := .int .i64 (C.ins.length : Int)) rfl (by kernel_rfl) (by kernel_rfl) (by kernel_rfl) (fun _ _ _ h => h) (Or.inl ⟨by rfl, fun wx hx => by go_simp⟩) HS ?_
  simp only [Act.put, List.setIfInBounds_toArray, List.set_cons_zero, List.set_cons_succ]
  refine wpAnyH_take (i := 9) (oi := { dst := some 14, op := Op.binOp BinOp.add _ (Operand.tmp 13) (Operand.const (Value.int IntKind.i64 1)) _, type := _, pos := _, after := _, guard := some (3, true) }) (v := .int .i64 ((C.ins.length : Int) + 1)) rfl (by kernel_rfl) (by kernel_rfl) (by kernel_rfl) (fun _ _ _ h => h) (Or.inl ⟨by rfl, fun wx hx => by go_simp; exact wrapIdC (by omega) (by omega)⟩) HS ?_
  simp only [Act.put, List.setIfInBounds_toArray, List.set_cons_zero, List.set_cons_succ]
  refine wpAnyH_take (i := 10) (oi := { dst := some 15, op := Op.slice _ (Operand.tmp 10) none (some (Operand.tmp 14)) none, type := _, pos := _, after := _, guard := some (3, true) }) (v := .slice (some ⟨g, off, none⟩) (C.ins.length + 1) cm) rfl (by kernel_rfl) (by kernel_rfl) (by kernel_rfl) (fun _ _ _ h => h) (Or.inl ⟨by rfl, fun wx hx => by go_simp <;> omega⟩) HS ?_
  simp only [Act.put, List.setIfInBounds_toArray, List.set_cons_zero, List.set_cons_succ]
  refine wpAnyH_take (i := 11) (oi := { dst := some 16, op := Op.fieldAddr _ (Operand.tmp 2) 1, type := _, pos := _, after := _, guard := some (3, true) }) (v := .pointer (some ⟨w.heap.size, 1, none⟩)) rfl (by kernel_rfl) (by kernel_rfl) (by kernel_rfl) (fun _ _ _ h => h) (Or.inl ⟨by rfl, fun _ _ => rfl⟩) HS ?_
  simp only [Act.put, List.setIfInBounds_toArray, List.set_cons_zero, List.set_cons_succ]
  refine wpAnyH_take (i := 12) (oi := { dst := some 17, op := Op.load _ (Operand.tmp 16), type := _, pos := _, after := _, guard := some (3, true) }) (v := .slice (some ⟨g, off, none⟩) C.ins.length cm) rfl (by kernel_rfl) (by kernel_rfl) (by kernel_rfl) (fun _ _ _ h => h) (Or.inl ⟨by rfl, fun wx hx => by have c := ((unhide HA).ext hx).cell (i := 1) rfl; go_simp⟩) HS ?_
  simp only [Act.put, List.setIfInBounds_toArray, List.set_cons_zero, List.set_cons_succ]
  refine wpAnyH_take (i := 13) (oi := { dst := some 18, op := Op.call { callee := Callee.builtin Builtin.len, args := #[Operand.tmp 17], argTypes := _ }, type := _, pos := _, after := _, guard := some (3, true) }) (v := .int .i64 (C.ins.length : Int)) rfl (by kernel_rfl) (by kernel_rfl) (by kernel_rfl) (fun _ _ _ h => h) (Or.inl ⟨by rfl, fun wx hx => by go_simp⟩) HS ?_
  simp only [Act.put, List.setIfInBounds_toArray, List.set_cons_zero, List.set_cons_succ]
  refine wpAnyH_take (i := 14) (oi := { dst := some 19, op := Op.indexAddr _ (Operand.tmp 15) (Operand.tmp 18), type := _, pos := _, after := _, guard := some (3, true) }) (v := .pointer (some ⟨g, off + C.ins.length * 16, none⟩)) rfl (by kernel_rfl) (by kernel_rfl) (by kernel_rfl) (fun _ _ _ h => h) (Or.inl ⟨by rfl, fun wx hx => by go_simp <;> omega⟩) HS ?_
  simp only [Act.put, List.setIfInBounds_toArray, List.set_cons_zero, List.set_cons_succ]
  refine wpAnyH_take (i := 15) (oi := { dst := some 20, op := Op.fieldAddr _ (Operand.tmp 19) 0, type := _, pos := _, after := _, guard := some (3, true) }) (v := .pointer (some ⟨g, off + C.ins.length * 16, none⟩)) rfl (by kernel_rfl) (by kernel_rfl) (by kernel_rfl) (fun _ _ _ h => h) (Or.inl ⟨by rfl, fun _ _ => rfl⟩) HS ?_
  simp only [Act.put, List.setIfInBounds_toArray, List.set_cons_zero, List.set_cons_succ]
  refine wpAnyH_take (i := 16) (oi := { dst := some 21, op := Op.load _ (Operand.tmp 20), type := _, pos := _, after := _, guard := some (3, true) }) (v := .int .i64 77) rfl (by kernel_rfl) (by kernel_rfl) (by kernel_rfl) (fun _ _ _ h => h) (Or.inl ⟨by rfl, fun wx hx => by have c := unhide H77 wx hx; go_simp⟩) HS ?_
  simp only [Act.put, List.setIfInBounds_toArray, List.set_cons_zero, List.set_cons_succ]
  refine wpAnyH_take (i := 17) (oi := { dst := some 22, op := Op.binOp BinOp.eql _ (Operand.tmp 21) (Operand.const (Value.int IntKind.i64 77)) _, type := _, pos := _, after := _, guard := some (3, true) }) (v := .bool true) rfl (by kernel_rfl) (by kernel_rfl) (by kernel_rfl) (fun _ _ _ h => h) (Or.inl ⟨by rfl, fun wx hx => by go_simp⟩) HS ?_
  simp only [Act.put, List.setIfInBounds_toArray, List.set_cons_zero, List.set_cons_succ]
  refine wpAnyH_take (i := 18) (oi := { dst := some 23, op := Op.pick (Operand.tmp 8) (Operand.tmp 22) (Operand.const (Value.bool false)), type := _, pos := _, after := _, guard := none }) (v := .bool true) rfl (by kernel_rfl) (by kernel_rfl) (by kernel_rfl) (fun _ _ _ h => h) (Or.inl ⟨by rfl, fun _ _ => rfl⟩) HS ?_
  simp only [Act.put, List.setIfInBounds_toArray, List.set_cons_zero, List.set_cons_succ]
  refine wpAnyH_take (i := 19) (oi := { dst := some 4, op := Op.assign (Operand.tmp 23), type := _, pos := _, after := _, guard := none }) (v := .bool true) rfl (by kernel_rfl) (by kernel_rfl) (by kernel_rfl) (fun _ _ _ h => h) (Or.inl ⟨by rfl, fun _ _ => rfl⟩) HS ?_
  simp only [Act.put, List.setIfInBounds_toArray, List.set_cons_zero, List.set_cons_succ]
  refine wpAnyH_done (by kernel_rfl) ?_ _
  refine NoPanic.normal ?_
  go_wp2
  go_ret
  exact ⟨rfl, (unhide HX).trans HS⟩
end Go.Proofs.Ytfoffnbkfnbglaa

/-
  checks: a code is checked, encoded and gone through as the document says.
-/
namespace Go.Proofs.Ytfoffnbkfnbglaa
open Go.RowKit
set_option linter.unusedVariables false
set_option linter.unusedSimpArgs false

theorem fewC_len (C : Cod) : (fewC C).ins.length ≤ 4097 := by
  unfold fewC
  simp
  omega
/-- What stays while a code is looked at. -/
def CkS (w : World) (F : Cod) (am an : Option Addr) (cm cn B3 : Nat) (wx : World) : Prop :=
  Ext w wx ∧ Blk wx w.heap.size #[.int .i64 (F).stage, .slice am F.ins.length cm, .int .i64 (F).regs, .int .i64 (F).attr, .int .i64 (F).unif, .int .i64 (F).vary] 26 ∧ Blk wx B3 #[.int .i64 (F).stage, .slice an F.ins.length cn, .int .i64 (F).regs, .int .i64 (F).attr, .int .i64 (F).unif, .int .i64 (F).vary] 26 ∧ IR wx (.slice am (F.ins.length + 1) cm) (F.ins ++ [i77]) ∧ IR wx (.slice am F.ins.length cm) F.ins ∧ IR wx (.slice an F.ins.length cn) F.ins
theorem CkS.ext {w : World} {F : Cod} {am an : Option Addr} {cm cn B3 : Nat} {wx wy : World} (h : CkS w F am an cm cn B3 wx) (hx : Ext wx wy) : CkS w F am an cm cn B3 wy :=
  ⟨h.1.trans hx, h.2.1.ext hx, h.2.2.1.ext hx, h.2.2.2.1.ext hx, h.2.2.2.2.1.ext hx, h.2.2.2.2.2.ext hx⟩

set_option maxRecDepth 10000 in
set_option maxHeartbeats 8000000 in
theorem checks_any (C : Cod) (v : Value) (w : World) (h : IR w v C.ins) (hok : ∀ I ∈ C.ins, OkI I) : Calls Try.prog 10 #[.agg #[.int .i64 (C).stage, v, .int .i64 (C).regs, .int .i64 (C).attr, .int .i64 (C).unif, .int .i64 (C).vary]] w fun e w' => e = .returned (.bool true) ∧ Ext w w' := by
  have HV := hide h
  obtain ⟨ao, ca, rfl, _⟩ := h
  have HX : Hid (Ext w (w.alloc (.cells #[.int .i64 (C).stage, .slice ao C.ins.length ca, .int .i64 (C).regs, .int .i64 (C).attr, .int .i64 (C).unif, .int .i64 (C).vary] 26))) := (Ext.refl w).alloc _
  have HCA : Hid (Blk (w.alloc (.cells #[.int .i64 (C).stage, .slice ao C.ins.length ca, .int .i64 (C).regs, .int .i64 (C).attr, .int .i64 (C).unif, .int .i64 (C).vary] 26)) w.heap.size #[.int .i64 (C).stage, .slice ao C.ins.length ca, .int .i64 (C).regs, .int .i64 (C).attr, .int .i64 (C).unif, .int .i64 (C).vary] 26) := Blk.new w _ _
  obtain ⟨F, hF⟩ : ∃ F, F = fewC C := ⟨_, rfl⟩
  have HOF : Hid (∀ I ∈ F.ins, OkI I) := by subst hF; exact few_ok hok
  have hFl : F.ins.length ≤ 4097 := by subst hF; exact fewC_len C
  have HFC : Hid (∀ wx, Ext w wx → Calls Try.prog 24 #[.agg #[.int .i64 (C).stage, .slice ao C.ins.length ca, .int .i64 (C).regs, .int .i64 (C).attr, .int .i64 (C).unif, .int .i64 (C).vary]] wx (FewR F wx)) := fun wx hx => by subst hF; exact few_any C _ wx ((unhide HV).ext hx)
  clear hF HV hok
  go_enter Try.func10, Try.ntmps10
  go_wp2_with (first
    | refine wpList_load_row rfl 26 (.tmp 1) rfl w.heap.size rfl 26 #[.int .i64 (C).stage, .slice ao C.ins.length ca, .int .i64 (C).regs, .int .i64 (C).attr, .int .i64 (C).unif, .int .i64 (C).vary] (0, 0) _ (unhide HCA) Try.underlying26 rfl size6 ?_
    | (go_at_call 9999))
  generalize w.alloc (.cells #[.int .i64 (C).stage, .slice ao C.ins.length ca, .int .i64 (C).regs, .int .i64 (C).attr, .int .i64 (C).unif, .int .i64 (C).vary] 26) = w0 at HX HCA ⊢
  refine (unhide HFC _ (unhide HX)).mono ?_
  rintro e w1 ⟨am, cm, rfl, hio, hx1⟩
  have HB1 := hide ((unhide HCA).ext hx1)
  have hxw1 := (unhide HX).trans hx1
  have HX2 := hide (extRow (b := w.heap.size) (cs := #[.int .i64 (F).stage, .slice am F.ins.length cm, .int .i64 (F).regs, .int .i64 (F).attr, .int .i64 (F).unif, .int .i64 (F).vary]) hxw1 (Nat.le_refl _))
  have HB2 := hide ((unhide HB1).rowC (cs' := #[.int .i64 (F).stage, .slice am F.ins.length cm, .int .i64 (F).regs, .int .i64 (F).attr, .int .i64 (F).unif, .int .i64 (F).vary]))
  have HIO := hide (hio.kept9 (grownBy_row _ _ #[.int .i64 (F).stage, .slice am F.ins.length cm, .int .i64 (F).regs, .int .i64 (F).attr, .int .i64 (F).unif, .int .i64 (F).vary]) (hio.neB (unhide HB1) (by decide)))
  clear hio hx1 hxw1 HX HCA HFC
  go_upto_region 2 with (refine wpList_store_row rfl 26 (.tmp 1) (.tmp 12) rfl w.heap.size #[.int .i64 (F).stage, .slice am F.ins.length cm, .int .i64 (F).regs, .int .i64 (F).attr, .int .i64 (F).unif, .int .i64 (F).vary] rfl rfl 26 _ (unhide HB1) size6 rfl (by simp [Value.oneCell']) ?_)
  generalize w1.setRow w.heap.size #[.int .i64 (F).stage, .slice am F.ins.length cm, .int .i64 (F).regs, .int .i64 (F).attr, .int .i64 (F).unif, .int .i64 (F).vary] = w2 at HX2 HB2 HIO ⊢
  have HI1 := hide (unhide HIO).ir
  have HI2 := hide (few_readB (unhide HIO))
  clear HB1 HIO
  go_wp2_with (first
    | refine wpList_load_row rfl 26 (.tmp 1) rfl w.heap.size rfl 26 #[.int .i64 (F).stage, .slice am F.ins.length cm, .int .i64 (F).regs, .int .i64 (F).attr, .int .i64 (F).unif, .int .i64 (F).vary] (0, 0) _ (unhide HB2) Try.underlying26 rfl size6 ?_
    | (go_at_call 9999))
  refine (copied_any F _ w2 (unhide HI2) hFl).mono ?_
  rintro e w3 ⟨an, cn, rfl, hir3, hx3⟩
  have hi1 := unhide HI1
  have HS0 : Hid (CkS w F am an cm cn w3.heap.size (w3.alloc (.cells #[.int .i64 (F).stage, .slice an F.ins.length cn, .int .i64 (F).regs, .int .i64 (F).attr, .int .i64 (F).unif, .int .i64 (F).vary] 26))) := ⟨((unhide HX2).trans hx3).alloc _, ((unhide HB2).ext hx3).alloc _, Blk.new _ _ _, (hi1.ext hx3).ext ((Ext.refl w3).alloc _), ((unhide HI2).ext hx3).ext ((Ext.refl w3).alloc _), hir3.ext ((Ext.refl w3).alloc _)⟩
  clear hir3 hx3 hi1 HI1 HI2 HX2 HB2
  go_upto_region 3 with (refine wpList_storeLast rfl 26 (.tmp 3) (.tmp 14) rfl _ w3.heap.size rfl rfl #[.int .i64 (F).stage, .slice an F.ins.length cn, .int .i64 (F).regs, .int .i64 (F).attr, .int .i64 (F).unif, .int .i64 (F).vary] rfl 6 size6 rfl rfl (by simp [Value.oneCell']) ?_)
  generalize w3.alloc (.cells #[.int .i64 (F).stage, .slice an F.ins.length cn, .int .i64 (F).regs, .int .i64 (F).attr, .int .i64 (F).unif, .int .i64 (F).vary] 26) = w4 at HS0 ⊢
  generalize w3.heap.size = B3 at *
  have HLM := hide (fun hm => (may_regs (C := F) hm).1)
  cases hm : mayP F
  case false =>
    go_wp2_with (first
      | refine wpList_load_row rfl 26 (.tmp 3) rfl B3 rfl 26 #[.int .i64 (F).stage, .slice an F.ins.length cn, .int .i64 (F).regs, .int .i64 (F).attr, .int .i64 (F).unif, .int .i64 (F).vary] (0, 0) _ (unhide HS0).2.2.1 Try.underlying26 rfl size6 ?_
      | (go_at_call 9999))
    refine (refMay_any F _ w4 (unhide HS0).2.2.2.2.2).mono ?_
    rintro e w5 ⟨rfl, hx5⟩
    have HS5 := hide ((unhide HS0).ext hx5)
    clear hx5 HS0
    rw [hm]
    go_wp2_with (first
      | refine wpList_load_row rfl 26 (.tmp 1) rfl w.heap.size rfl 26 #[.int .i64 (F).stage, .slice am F.ins.length cm, .int .i64 (F).regs, .int .i64 (F).attr, .int .i64 (F).unif, .int .i64 (F).vary] (0, 0) _ (unhide HS5).2.1 Try.underlying26 rfl size6 ?_
      | (go_at_call 9999))
    refine (check_any F _ w5 (unhide HS5).2.2.2.2.1).mono ?_
    rintro e w6 ⟨rfl, hx6⟩
    have HS6 := hide ((unhide HS5).ext hx6)
    clear hx6 HS5
    rw [hm]
    rw [show chkI false = 260 from rfl]
    go_wp2_with (first
      | refine wpList_load_row rfl 26 (.tmp 1) rfl w.heap.size rfl 26 #[.int .i64 (F).stage, .slice am F.ins.length cm, .int .i64 (F).regs, .int .i64 (F).attr, .int .i64 (F).unif, .int .i64 (F).vary] (0, 0) _ (unhide HS6).2.1 Try.underlying26 rfl size6 ?_
      | (go_at_call 9999))
    refine (encode_bad F _ w6 (unhide HS6).2.2.2.2.1 hm).mono ?_
    rintro e w7 ⟨rfl, hx7⟩
    have HS7 := hide ((unhide HS6).ext hx7)
    clear hx7 HS6
    go_wp2_with (first
      | refine wpList_load_row rfl 26 (.tmp 1) rfl w.heap.size rfl 26 #[.int .i64 (F).stage, .slice am F.ins.length cm, .int .i64 (F).regs, .int .i64 (F).attr, .int .i64 (F).unif, .int .i64 (F).vary] (0, 0) _ (unhide HS7).2.1 Try.underlying26 rfl size6 ?_
      | (go_at_call 9999))
    refine (reach_bad F _ w7 (unhide HS7).2.2.2.2.1 hm).mono ?_
    rintro e w8 ⟨rfl, hx8⟩
    have HS8 := hide ((unhide HS7).ext hx8)
    clear hx8 HS7
    go_wp2_with (first
      | refine wpList_load_row rfl 26 (.tmp 1) rfl w.heap.size rfl 26 #[.int .i64 (F).stage, .slice am F.ins.length cm, .int .i64 (F).regs, .int .i64 (F).attr, .int .i64 (F).unif, .int .i64 (F).vary] (0, 0) _ (unhide HS8).2.1 Try.underlying26 rfl size6 ?_
      | refine wpList_load_row rfl 26 (.tmp 3) rfl B3 rfl 26 #[.int .i64 (F).stage, .slice an F.ins.length cn, .int .i64 (F).regs, .int .i64 (F).attr, .int .i64 (F).unif, .int .i64 (F).vary] (0, 0) _ (unhide HS8).2.2.1 Try.underlying26 rfl size6 ?_
      | (go_at_call 9999))
    refine (whole_any F F am an cm cn w8 (by omega) (unhide HS8).2.2.2.1 (unhide HS8).2.2.2.2.2 (sameC_refl F)).mono ?_
    rintro e w9 ⟨rfl, hx9⟩
    have HS9 := hide ((unhide HS8).ext hx9)
    clear hx9 HS8
    go_wp2
    go_ret
    exact ⟨rfl, (unhide HS9).1⟩
  case true =>
    have hFm := unhide HLM hm
    go_wp2_with (first
      | refine wpList_load_row rfl 26 (.tmp 3) rfl B3 rfl 26 #[.int .i64 (F).stage, .slice an F.ins.length cn, .int .i64 (F).regs, .int .i64 (F).attr, .int .i64 (F).unif, .int .i64 (F).vary] (0, 0) _ (unhide HS0).2.2.1 Try.underlying26 rfl size6 ?_
      | (go_at_call 9999))
    refine (refMay_any F _ w4 (unhide HS0).2.2.2.2.2).mono ?_
    rintro e w5 ⟨rfl, hx5⟩
    have HS5 := hide ((unhide HS0).ext hx5)
    clear hx5 HS0
    rw [hm]
    go_wp2_with (first
      | refine wpList_load_row rfl 26 (.tmp 1) rfl w.heap.size rfl 26 #[.int .i64 (F).stage, .slice am F.ins.length cm, .int .i64 (F).regs, .int .i64 (F).attr, .int .i64 (F).unif, .int .i64 (F).vary] (0, 0) _ (unhide HS5).2.1 Try.underlying26 rfl size6 ?_
      | (go_at_call 9999))
    refine (check_any F _ w5 (unhide HS5).2.2.2.2.1).mono ?_
    rintro e w6 ⟨rfl, hx6⟩
    have HS6 := hide ((unhide HS5).ext hx6)
    clear hx6 HS5
    rw [hm]
    rw [show chkI true = 0 from rfl]
    go_wp2_with (first
      | refine wpList_load_row rfl 26 (.tmp 1) rfl w.heap.size rfl 26 #[.int .i64 (F).stage, .slice am F.ins.length cm, .int .i64 (F).regs, .int .i64 (F).attr, .int .i64 (F).unif, .int .i64 (F).vary] (0, 0) _ (unhide HS6).2.1 Try.underlying26 rfl size6 ?_
      | (go_at_call 9999))
    refine (encode_ok F _ w6 (unhide HS6).2.2.2.2.1 (unhide HOF) hm).mono ?_
    rintro e w7 ⟨ae, ce, rfl, hoe, hx7⟩
    have HS7 := hide ((unhide HS6).ext hx7)
    have HBY := hide (bytP_len F)
    obtain ⟨Y, hY⟩ : ∃ Y, Y = bytP F := ⟨_, rfl⟩
    rw [← hY] at hoe ⊢
    have HY := hide hY
    have HRE := hide hoe.row
    clear hx7 HS6 hoe hY
    obtain ⟨ny, hny⟩ : ∃ ny, ny = Y.length := ⟨_, rfl⟩
    rw [← hny]
    have HNY := hide hny
    clear hny
    go_wp2_with (first
      | refine wpList_load_row rfl 26 (.tmp 1) rfl w.heap.size rfl 26 #[.int .i64 (F).stage, .slice am F.ins.length cm, .int .i64 (F).regs, .int .i64 (F).attr, .int .i64 (F).unif, .int .i64 (F).vary] (0, 0) _ (unhide HS7).2.1 Try.underlying26 rfl size6 ?_
      | (go_at_call 9999))
    refine (reach_ok F _ w7 (unhide HS7).2.2.2.2.1 hm).mono ?_
    rintro e w8 ⟨g8, rfl, hb8, _, hx8⟩
    have HS8 := hide ((unhide HS7).ext hx8)
    have HRE8 := hide ((unhide HRE).below hx8)
    have HG8 := hide hb8
    clear hx8 HS7 hb8 HRE
    go_wp2_with (first
      | refine wpList_load_row rfl 26 (.tmp 1) rfl w.heap.size rfl 26 #[.int .i64 (F).stage, .slice am F.ins.length cm, .int .i64 (F).regs, .int .i64 (F).attr, .int .i64 (F).unif, .int .i64 (F).vary] (0, 0) _ (unhide HS8).2.1 Try.underlying26 rfl size6 ?_
      | refine wpList_load_row rfl 26 (.tmp 3) rfl B3 rfl 26 #[.int .i64 (F).stage, .slice an F.ins.length cn, .int .i64 (F).regs, .int .i64 (F).attr, .int .i64 (F).unif, .int .i64 (F).vary] (0, 0) _ (unhide HS8).2.2.1 Try.underlying26 rfl size6 ?_
      | (go_at_call 9999))
    refine (whole_any F F am an cm cn w8 (by omega) (unhide HS8).2.2.2.1 (unhide HS8).2.2.2.2.2 (sameC_refl F)).mono ?_
    rintro e w9 ⟨rfl, hx9⟩
    have HS9 := hide ((unhide HS8).ext hx9)
    have HRE9 := hide ((unhide HRE8).below hx9)
    have HG9 := hide ((unhide HG8).ext hx9)
    clear hx9 HS8 HRE8 HG8
    go_wp2_with (first
      | refine wpList_load_row rfl 26 (.tmp 3) rfl B3 rfl 26 #[.int .i64 (F).stage, .slice an F.ins.length cn, .int .i64 (F).regs, .int .i64 (F).attr, .int .i64 (F).unif, .int .i64 (F).vary] (0, 0) _ (unhide HS9).2.2.1 Try.underlying26 rfl size6 ?_
      | (go_at_call 9999))
    refine (refReach_any F _ w9 (unhide HS9).2.2.2.2.2 hm).mono ?_
    rintro e wa ⟨ga, rfl, hba, _, hxa⟩
    have HSa := hide ((unhide HS9).ext hxa)
    have HREa := hide ((unhide HRE9).below hxa)
    have HGa := hide ((unhide HG9).ext hxa)
    have HHa := hide hba
    clear hxa HS9 HRE9 HG9 hba
    go_wp2_with (first
      | refine wpList_load_row_wantC rfl 26 (.tmp 3) rfl B3 rfl 26 #[.int .i64 (F).stage, .slice an F.ins.length cn, .int .i64 (F).regs, .int .i64 (F).attr, .int .i64 (F).unif, .int .i64 (F).vary] (0, 0) _ (unhide HSa).2.2.1 Try.underlying26 rfl size6 ?_
      | (go_at_call 9999))
    refine (refBytes_any F _ wa (unhide HSa).2.2.2.2.2 (unhide HOF) hFm).mono ?_
    rintro e wb ⟨bo, l, cb, rfl, hrow, hxb⟩
    rw [← unhide HY] at hrow
    obtain ⟨_, _, el, _, _, _⟩ := hrow.shape
    have el2 := (Value.slice.inj el).2.1
    have HSb := hide ((unhide HSa).ext hxb)
    have HGb := hide ((unhide HGa).ext hxb)
    have HHb := hide ((unhide HHa).ext hxb)
    have HEQ : Hid (Calls Try.prog 8 #[.slice ae ny ce, .slice bo l cb] wb fun e w' => e = .returned (.bool true) ∧ w' = wb) := by
      have h1 := (unhide HREa).below hxb
      rw [el2] at hrow
      rw [Hid, el2, unhide HNY]
      exact equal_sameC ae bo ce cb Y wb h1 hrow
    clear hxb HSa HGa HHa HREa hrow el el2
    go_wp2_with (go_at_call 9999)
    refine (unhide HEQ).mono ?_
    rintro e wc ⟨rfl, rfl⟩
    clear HEQ
    obtain ⟨R, hR⟩ : ∃ R, R = reachP F.ins := ⟨_, rfl⟩
    rw [← hR] at HGb HHb
    have HRL : Hid (R.length = F.ins.length + 1) := by rw [Hid, hR]; exact reachTo_len _ _
    clear hR
    go_wp2
    go_loopw [72] (fun iv wr => ∃ k : Nat, k ≤ F.ins.length + 1 ∧ iv = .int .i64 (k : Int) ∧ Ext w wr ∧ Blk wr g8 (bcells R) 4 ∧ Blk wr ga (bcells R) 4) (fun iv _ => F.ins.length + 1 - (intOf iv).toNat)
    case atStart => exact ⟨0, Nat.zero_le _, rfl, (unhide HSb).1, unhide HGb, unhide HHb⟩
    case round =>
      clear HSb HGb HHb
      obtain ⟨k, hk, rfl, hx, hb1, hb2⟩ := hrel
      have D := hide (And.intro hx (And.intro hb1 hb2))
      by_cases hlt : k < F.ins.length + 1
      · have hk1 : (k : Int) < (F.ins.length : Int) + 1 := by omega
        have c1 := hb1.cell (bcells_at (r := R) (i := k) (by rw [unhide HRL]; omega))
        have c2 := hb2.cell (bcells_at (r := R) (i := k) (by rw [unhide HRL]; omega))
        clear hx hb1 hb2
        generalize R.getD k false = rk at *
        have hne : (rk != rk) = false := by simp
        go_upto_region 17 with fail
        go_quiet (fail)
        go_wp2
        go_roundw
        case rel => exact ⟨k + 1, by omega, by go_num, (unhide D).1.drewN _, (unhide D).2.1.drewN _, (unhide D).2.2.drewN _⟩
        case measure => simp [intOf]; omega
      · obtain rfl : k = F.ins.length + 1 := by omega
        clear hx hb1 hb2
        go_wp2
        go_ret
        exact ⟨rfl, (unhide D).1⟩
end Go.Proofs.Ytfoffnbkfnbglaa
