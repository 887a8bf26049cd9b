/-
  Codes and their bytes, plainly: what was encoded is decoded, and the other way round.
-/
import Derived.Test.YtclkpahihfeacaaCFx
namespace Go.Proofs.Ytclkpahihfeacaa
open Go.RowKit
set_option linter.unusedVariables false
set_option linter.unusedSimpArgs false

theorem num_low (x : Int) : numOf (low x 4) = x % 4294967296 := by
  simp only [low, numOf]
  omega
theorem low_of_num : ∀ (l : List Int), Byt l → low (numOf l) l.length = l
  | [], _ => rfl
  | c :: r, h => by
    have hc := h c (by simp)
    have ih := low_of_num r (fun x hx => h x (by simp [hx]))
    rw [List.length_cons, low, numOf]
    have e1 : (c + 256 * numOf r) % 256 = c := by omega
    have e2 : (c + 256 * numOf r) / 256 = numOf r := by omega
    rw [e1, e2, ih]
theorem low_len4 (x : Int) : (low x 4).length = 4 := by simp [low]
theorem bytL_at : ∀ (l : List Int) (i : Nat) (h : i < l.length), ((bytL l).drop (4 * i)).take 4 = low l[i] 4
  | x :: r, 0, _ => by
    have e : bytL (x :: r) = low x 4 ++ bytL r := rfl
    have h4 := List.take_left (l₁ := low x 4) (l₂ := bytL r)
    rw [low_len4] at h4
    rw [e, Nat.mul_zero, List.drop_zero, h4]
    simp
  | x :: r, i + 1, h => by
    have e : bytL (x :: r) = low x 4 ++ bytL r := rfl
    have ih := bytL_at r i (by simpa using h)
    rw [e, show 4 * (i + 1) = (low x 4).length + 4 * i by rw [low_len4]; omega, ← List.drop_drop, List.drop_left, ih]
    simp
theorem numA_bytL (l : List Int) (i : Nat) (h : i < l.length) (h0 : 0 ≤ l[i]) (h1 : l[i] < 4294967296) : numA (bytL l) (4 * i) = l[i] := by
  unfold numA
  rw [bytL_at l i h, num_low]
  omega
/-- The raw numbers of a code. -/
def rawL (C : Cod) : List Int := hdL C C.ins.length ++ C.ins.flatMap inL
theorem numL_raw (C : Cod) : numL C = (rawL C).map lo32 := by
  unfold numL numK rawL
  rw [List.take_length]
theorem flat_len (L : List (Nat → Int)) : (L.flatMap inL).length = 16 * L.length := by
  induction L with
  | nil => rfl
  | cons x r ih => rw [List.flatMap_cons, List.length_append, ih]; simp [inL]; omega
theorem flat_at : ∀ (L : List (Nat → Int)) (j i : Nat) (hj : j < L.length) (hi : i < 16), (L.flatMap inL)[16 * j + i]? = some (L[j] i)
  | x :: r, 0, i, _, hi => by
    rw [List.flatMap_cons, List.getElem?_append_left (by simp [inL]; omega)]
    rcases (by omega : i = 0 ∨ i = 1 ∨ i = 2 ∨ i = 3 ∨ i = 4 ∨ i = 5 ∨ i = 6 ∨ i = 7 ∨ i = 8 ∨ i = 9 ∨ i = 10 ∨ i = 11 ∨ i = 12 ∨ i = 13 ∨ i = 14 ∨ i = 15) with rfl | rfl | rfl | rfl | rfl | rfl | rfl | rfl | rfl | rfl | rfl | rfl | rfl | rfl | rfl | rfl <;> rfl
  | x :: r, j + 1, i, h, hi => by
    have ih := flat_at r j i (by simpa using h) hi
    have el : (inL x).length = 16 := rfl
    rw [List.flatMap_cons, List.getElem?_append_right (by omega), el, show 16 * (j + 1) + i - 16 = 16 * j + i by omega, ih]
    simp
theorem raw_len (C : Cod) : (rawL C).length = 7 + 16 * C.ins.length := by
  unfold rawL
  rw [List.length_append, flat_len]
  rfl
theorem numA_bytP (C : Cod) (i : Nat) (x : Int) (h : (rawL C)[i]? = some x) : numA (bytP C) (4 * i) = lo32 x := by
  obtain ⟨hi, e⟩ := List.getElem?_eq_some_iff.1 h
  unfold bytP
  rw [numL_raw]
  have hl : i < ((rawL C).map lo32).length := by simpa using hi
  have hx : ((rawL C).map lo32)[i] = lo32 x := by simp [e]
  have := u32_in x
  rw [numA_bytL _ i hl (by rw [hx]; omega) (by rw [hx]; omega), hx]
theorem raw_ins (C : Cod) (j i : Nat) (hj : j < C.ins.length) (hi : i < 16) : (rawL C)[7 + 16 * j + i]? = some (C.ins[j] i) := by
  unfold rawL
  rw [List.getElem?_append_right (by simp [hdL]; omega), show 7 + 16 * j + i - (hdL C C.ins.length).length = 16 * j + i by simp [hdL]; omega]
  exact flat_at _ j i hj hi
theorem raw_hd (C : Cod) (i : Nat) (hi : i < 7) : (rawL C)[i]? = (hdL C C.ins.length)[i]? := by
  unfold rawL
  rw [List.getElem?_append_left (by simp [hdL]; omega)]
theorem sg_lo32 (x : Int) (h0 : -2147483648 ≤ x) (h1 : x ≤ 2147483647) : sg (lo32 x) = x := by
  unfold sg lo32
  simp [IntKind.wrap, IntKind.bits, IntKind.signed]
  omega
theorem lo32_sg (x : Int) (h0 : 0 ≤ x) (h1 : x < 4294967296) : lo32 (sg x) = x := by
  unfold sg lo32
  simp [IntKind.wrap, IntKind.bits, IntKind.signed]
  omega
theorem lo32_id (x : Int) (h0 : 0 ≤ x) (h1 : x < 4294967296) : lo32 x = x := by unfold lo32; omega

theorem args_pos {f b : Int} (h : 0 < argsP f b) : 1 ≤ f ∧ f ≤ 35 ∧ 1 ≤ b ∧ b ≤ 3 := by
  unfold argsP at h
  repeat' split at h
  all_goals omega
set_option maxHeartbeats 4000000 in
/-- The numbers of an instruction that may be are small, Imm's aside. -/
theorem may_small {C : Cod} {n k : Nat} {I : Nat → Int} (h : insB C n k I = true) (hn : n ≤ 4096) (hh : headB C = true) : ∀ i, i < 16 → ¬ (8 ≤ i ∧ i < 12) → 0 ≤ I i ∧ I i < 4294967296 := by
  have hg : C.regs ≤ 1024 ∧ C.attr ≤ 8 ∧ C.unif ≤ 32 ∧ C.vary ≤ 4 := by
    unfold headB at hh
    repeat' split at hh
    all_goals simp [inB_iff] at hh
    all_goals omega
  simp only [insB, Bool.and_eq_true] at h
  obtain ⟨h1, h2, h3⟩ := h
  rw [sameI_iff] at h1
  have z : ∀ i, i < 16 → keeps I i = false → I i = 0 := fun i hi hk => by rw [h1 i hi, justP, hk]; rfl
  have z1 := z 1 (by omega)
  have z2 := z 2 (by omega)
  have z3 := z 3 (by omega)
  have z4 := z 4 (by omega)
  have z5 := z 5 (by omega)
  have z6 := z 6 (by omega)
  have z7 := z 7 (by omega)
  have z12 := z 12 (by omega)
  have z13 := z 13 (by omega)
  have z14 := z 14 (by omega)
  have z15 := z 15 (by omega)
  clear z h1
  simp only [keeps] at z1 z2 z3 z4 z5 z6 z7 z12 z13 z14 z15
  simp only [rgsB, Bool.and_eq_true, readsP, writI] at h2
  unfold fldB loadB storB at h3
  obtain ⟨h4, h5⟩ := h2
  have ho : I 0 = 1 ∨ I 0 = 2 ∨ I 0 = 3 ∨ I 0 = 4 ∨ I 0 = 5 ∨ I 0 = 6 ∨ I 0 = 7 ∨ I 0 = 8 ∨ I 0 = 9 ∨ I 0 = 10 ∨ I 0 = 11 ∨ I 0 = 12 := by
    repeat' split at h3
    all_goals first | omega | cases h3
  have H : (0 ≤ I 1 ∧ I 1 < 4294967296) ∧ (0 ≤ I 2 ∧ I 2 < 4294967296) ∧ (0 ≤ I 3 ∧ I 3 < 4294967296) ∧ (0 ≤ I 4 ∧ I 4 < 4294967296) ∧ (0 ≤ I 5 ∧ I 5 < 4294967296) ∧ (0 ≤ I 6 ∧ I 6 < 4294967296) ∧ (0 ≤ I 7 ∧ I 7 < 4294967296) ∧ (0 ≤ I 12 ∧ I 12 < 4294967296) ∧ (0 ≤ I 13 ∧ I 13 < 4294967296) ∧ (0 ≤ I 14 ∧ I 14 < 4294967296) ∧ (0 ≤ I 15 ∧ I 15 < 4294967296) := by
    rcases ho with e | e | e | e | e | e | e | e | e | e | e | e
    case inr.inr.inr.inr.inl =>
      simp [e, wrB, cntB] at h3 h5 z1 z2 z3 z4 z5 z6 z7 z12 z13 z14 z15 h4
      obtain ⟨ha, hc⟩ := h3
      have hp := args_pos ha
      have hl := argsP_le (I 1) (I 2)
      rw [inB_iff] at h5
      have e5 : 0 ≤ I 5 ∧ I 5 < 1024 := by
        have := h4 (I 5) (by rw [List.mem_take_iff_getElem]; exact ⟨0, by simp; omega, rfl⟩)
        rw [inB_iff] at this
        omega
      have e6 : 0 ≤ I 6 ∧ I 6 < 1024 := by
        by_cases h9 : 2 ≤ argsP (I 1) (I 2)
        · have := h4 (I 6) (by rw [List.mem_take_iff_getElem]; exact ⟨1, by simp; omega, rfl⟩)
          rw [inB_iff] at this
          omega
        · have := z6 (by omega)
          omega
      have e7 : 0 ≤ I 7 ∧ I 7 < 1024 := by
        by_cases h9 : 3 ≤ argsP (I 1) (I 2)
        · have := h4 (I 7) (by rw [List.mem_take_iff_getElem]; exact ⟨2, by simp; omega, rfl⟩)
          rw [inB_iff] at this
          omega
        · have := z7 (by omega)
          omega
      omega
    all_goals
      simp [e, wrB, cntB, plcB, baseB, inB_iff] at h3 h4 h5 z1 z2 z3 z4 z5 z6 z7 z12 z13 z14 z15
      try (repeat' split at h3)
      all_goals (try simp [inB_iff] at h3)
      all_goals omega
  intro i hi hn8
  rcases (by omega : i = 0 ∨ i = 1 ∨ i = 2 ∨ i = 3 ∨ i = 4 ∨ i = 5 ∨ i = 6 ∨ i = 7 ∨ i = 12 ∨ i = 13 ∨ i = 14 ∨ i = 15) with rfl | rfl | rfl | rfl | rfl | rfl | rfl | rfl | rfl | rfl | rfl | rfl
  · omega
  all_goals omega

theorem headB_in {C : Cod} (h : headB C = true) : (1 ≤ C.stage ∧ C.stage ≤ 2) ∧ (0 ≤ C.regs ∧ C.regs ≤ 1024) ∧ (0 ≤ C.attr ∧ C.attr ≤ 8) ∧ (0 ≤ C.unif ∧ C.unif ≤ 32) ∧ (0 ≤ C.vary ∧ C.vary ≤ 4) := by
  unfold headB at h
  repeat' split at h
  all_goals simp [inB_iff] at h
  all_goals omega
/-- What was encoded is decoded. -/
theorem enc_dec (C : Cod) (hm : mayP C = true) (hok : ∀ I ∈ C.ins, OkI I) : decB (bytP C) = true ∧ sameC C (codA (bytP C)) = true := by
  have hlen := bytP_len C
  have hm0 := hm
  simp only [mayP, Bool.and_eq_true, decide_eq_true_eq] at hm
  obtain ⟨hh, hn, ht⟩ := hm
  obtain ⟨s0, s1, s2, s3, s4⟩ := headB_in hh
  have hnI : nI (bytP C) = C.ins.length := by unfold nI; rw [hlen]; omega
  have hd : ∀ i (x : Int), (hdL C C.ins.length)[i]? = some x → i < 7 → 0 ≤ x → x < 4294967296 → numA (bytP C) (4 * i) = x := fun i x h hi h0 h1 => by
    rw [numA_bytP C i x (by rw [raw_hd C i hi]; exact h), lo32_id x h0 h1]
  have n0 := hd 0 1128353872 rfl (by omega) (by omega) (by omega)
  have n1 := hd 1 C.stage rfl (by omega) (by omega) (by omega)
  have n2 := hd 2 C.regs rfl (by omega) (by omega) (by omega)
  have n3 := hd 3 C.attr rfl (by omega) (by omega) (by omega)
  have n4 := hd 4 C.unif rfl (by omega) (by omega) (by omega)
  have n5 := hd 5 C.vary rfl (by omega) (by omega) (by omega)
  have n6 := hd 6 (C.ins.length : Int) rfl (by omega) (by omega) (by omega)
  have hs : sameC C (codA (bytP C)) = true := by
    rw [sameC_iff]
    refine ⟨n1.symm, n2.symm, n3.symm, n4.symm, n5.symm, ?_, fun k hk i hi => ?_⟩
    · show C.ins.length = (insL (bytP C) 28 0 (nI (bytP C))).length
      rw [insL_len, hnI]
    · show (C.ins.getD k zI) i = ((insL (bytP C) 28 0 (nI (bytP C))).getD k zI) i
      rw [hnI]
      have e1 : (insL (bytP C) 28 0 C.ins.length).getD k zI = insX (bytP C) 28 0 k := by simp [insL, hk]
      have e2 : C.ins.getD k zI = C.ins[k] := by simp [hk]
      have h2 := mayTo_at ht hk
      rw [e2] at h2
      have hsm := may_small h2 hn hh i hi
      have ho := (hok C.ins[k] (List.getElem_mem hk)).2.1
      rw [e1, e2, insX_at _ k i hi (by rw [hlen]; omega), show 28 + 64 * k + 4 * i = 4 * (7 + 16 * k + i) by omega, numA_bytP C _ _ (raw_ins C k i hk hi)]
      split
      · have h9 := ho (i - 8) (by omega)
        rw [show 8 + (i - 8) = i by omega] at h9
        rw [sg_lo32 _ h9.1 h9.2]
      · have h9 := hsm (by assumption)
        rw [lo32_id _ h9.1 h9.2]
  refine ⟨?_, hs⟩
  unfold decB
  rw [← may_congr _ _ hs, hm0, hlen, hnI]
  have n0' : numA (bytP C) 0 = 1128353872 := n0
  have n6' : numA (bytP C) 24 = (C.ins.length : Int) := n6
  have a1 : 28 + 64 * C.ins.length ≤ 262172 := by omega
  have a2 : 28 ≤ 28 + 64 * C.ins.length := by omega
  have a3 : (28 + 64 * C.ins.length - 28) % 64 = 0 := by omega
  rw [decide_eq_true a1, decide_eq_true a2, decide_eq_true a3, decide_eq_true n0', decide_eq_true n6']
  rfl
theorem numA_in (bs : List Int) (p : Nat) (hB : Byt bs) : 0 ≤ numA bs p ∧ numA bs p < 4294967296 := by
  have h : ∀ l : List Int, l.length ≤ 4 → Byt l → 0 ≤ numOf l ∧ numOf l < 4294967296 := by
    intro l hl hb
    match l, hl, hb with
    | [], _, _ => simp [numOf]
    | [a], _, hb => have := hb a (by simp); simp [numOf]; omega
    | [a, b], _, hb => have := hb a (by simp); have := hb b (by simp); simp [numOf]; omega
    | [a, b, c], _, hb => have := hb a (by simp); have := hb b (by simp); have := hb c (by simp); simp [numOf]; omega
    | [a, b, c, d], _, hb => have := hb a (by simp); have := hb b (by simp); have := hb c (by simp); have := hb d (by simp); simp [numOf]; omega
  exact h _ (by simp; omega) (fun x hx => hB x (List.mem_of_mem_drop (List.mem_of_mem_take hx)))
theorem bytL_num : ∀ (m : Nat) (bs : List Int), bs.length = 4 * m → Byt bs → bytL ((List.range m).map fun i => numA bs (4 * i)) = bs
  | 0, bs, h, _ => by
    have : bs = [] := by simpa using h
    subst this
    rfl
  | m + 1, bs, h, hB => by
    have ih := bytL_num m (bs.drop 4) (by simp; omega) (fun x hx => hB x (List.mem_of_mem_drop hx))
    rw [List.range_succ_eq_map, List.map_cons, List.map_map]
    have e : (List.map ((fun i => numA bs (4 * i)) ∘ Nat.succ) (List.range m)) = (List.range m).map fun i => numA (bs.drop 4) (4 * i) := by
      apply List.map_congr_left
      intro i _
      simp only [Function.comp, numA, List.drop_drop]
      rw [show 4 + 4 * i = 4 * i.succ by omega]
    rw [e]
    show low (numA bs (4 * 0)) 4 ++ bytL _ = bs
    rw [ih]
    have h4 := low_of_num (bs.take 4) (fun x hx => hB x (List.mem_of_mem_take hx))
    rw [List.length_take, show min 4 bs.length = 4 by omega] at h4
    unfold numA
    rw [Nat.mul_zero, List.drop_zero, h4, List.take_append_drop]
/-- What was decoded is encoded. -/
theorem dec_enc (bs : List Int) (hB : Byt bs) (hd : decB bs = true) : bytP (codA bs) = bs := by
  unfold decB at hd
  simp only [Bool.and_eq_true, decide_eq_true_eq] at hd
  obtain ⟨h1, h2, h3, h4, h5, h6⟩ := hd
  have hn : bs.length = 28 + 64 * nI bs := by unfold nI; omega
  have hl : (codA bs).ins.length = nI bs := insL_len _ _ _ _
  have e : (rawL (codA bs)).map lo32 = (List.range (7 + 16 * nI bs)).map fun i => numA bs (4 * i) := by
    apply List.ext_getElem?
    intro i
    by_cases hi : i < 7 + 16 * nI bs
    · rw [List.getElem?_map, List.getElem?_map, List.getElem?_range hi, Option.map_some]
      by_cases h7 : i < 7
      · rw [raw_hd _ i h7, hl]
        rcases (by omega : i = 0 ∨ i = 1 ∨ i = 2 ∨ i = 3 ∨ i = 4 ∨ i = 5 ∨ i = 6) with rfl | rfl | rfl | rfl | rfl | rfl | rfl
        · show some (lo32 1128353872) = some (numA bs 0)
          rw [h4]; rfl
        · exact congrArg some (lo32_id (numA bs 4) (numA_in bs 4 hB).1 (numA_in bs 4 hB).2)
        · exact congrArg some (lo32_id (numA bs 8) (numA_in bs 8 hB).1 (numA_in bs 8 hB).2)
        · exact congrArg some (lo32_id (numA bs 12) (numA_in bs 12 hB).1 (numA_in bs 12 hB).2)
        · exact congrArg some (lo32_id (numA bs 16) (numA_in bs 16 hB).1 (numA_in bs 16 hB).2)
        · exact congrArg some (lo32_id (numA bs 20) (numA_in bs 20 hB).1 (numA_in bs 20 hB).2)
        · show some (lo32 (nI bs : Int)) = some (numA bs 24)
          rw [h5, lo32_id _ (by omega) (by omega)]
      · have hj : (i - 7) / 16 < nI bs := by omega
        have ei : i = 7 + 16 * ((i - 7) / 16) + (i - 7) % 16 := by omega
        have hr := raw_ins (codA bs) ((i - 7) / 16) ((i - 7) % 16) (by rw [hl]; exact hj) (by omega)
        rw [← ei] at hr
        rw [hr, Option.map_some]
        have ex : (codA bs).ins[(i - 7) / 16]'(by rw [hl]; exact hj) = insX bs 28 0 ((i - 7) / 16) := by simp [codA, insL]
        rw [ex, insX_at bs _ _ (by omega) (by omega), show 28 + 64 * ((i - 7) / 16) + 4 * ((i - 7) % 16) = 4 * i by omega]
        have hin := numA_in bs (4 * i) hB
        split
        · rw [lo32_sg _ hin.1 hin.2]
        · rw [lo32_id _ hin.1 hin.2]
    · rw [List.getElem?_eq_none (by rw [List.length_map, raw_len, hl]; omega), List.getElem?_eq_none (by simp; omega)]
  unfold bytP
  rw [numL_raw, e]
  exact bytL_num _ bs (by omega) hB
/-- A byte less or more is nothing. -/
theorem dec_other (C : Cod) (bs : List Int) (hn : C.ins.length ≤ 4096) (h24 : 28 ≤ bs.length → numA bs 24 = (C.ins.length : Int)) (hl : bs.length ≠ 28 + 64 * C.ins.length) : decB bs = false := by
  cases h : decB bs with
  | false => rfl
  | true =>
    unfold decB at h
    simp only [Bool.and_eq_true, decide_eq_true_eq] at h
    obtain ⟨h1, h2, h3, h4, h5, h6⟩ := h
    have := h24 h2
    unfold nI at h5
    omega
end Go.Proofs.Ytclkpahihfeacaa
