/- Several texts in one. -/
import Derived.Test.YtgcliklpbahfaaaDoorXX
import Derived.Lib.IndexMore
import Derived.Test.YtgcliklpbahfaaaDoorZO
/-
  The document's Kept.
-/
namespace Go.Proofs.YtgcliklpbahfaaaDoor
open Go.RowKit
set_option linter.unusedVariables false
set_option linter.unusedSimpArgs false

/-- A word that is not everybody's. -/
def keptP (t : Byts8) : Bool := Lib.hasPrefix t [71, 76, 95] || Lib.contains t [95, 95]
theorem con_step (l : Byts8) (k : Nat) (hk : k < l.length) : Lib.contains (l.drop k) [95, 95] = (pre2 95 95 (l.drop k) || Lib.contains (l.drop (k + 1)) [95, 95]) := by
  unfold Lib.contains pre2 Lib.hasPrefix
  rw [List.drop_eq_getElem_cons hk, Lib.index]
  have hg := Lib.index_ge (l.drop (k + 1)) [95, 95]
  by_cases h : ([95, 95] : Byts8).isPrefixOf (l[k] :: l.drop (k + 1)) = true
  · rw [if_pos h, h]
    rfl
  · rw [if_neg h, Bool.eq_false_iff.2 h, Bool.false_or]
    by_cases h2 : Lib.index (l.drop (k + 1)) [95, 95] = -1
    · rw [h2]
      rfl
    · rw [if_neg (by simpa using h2), Bool.eq_iff_iff]
      simp
      omega
theorem con_short (l : Byts8) (h : l.length ≤ 1) : Lib.contains l [95, 95] = false := by
  rcases l with _ | ⟨a, _ | ⟨b, r⟩⟩
  · rfl
  · simp [Lib.contains, Lib.index, List.isPrefixOf]
  · simp at h

theorem ext3 (s : ByteArray) (h : 3 ≤ s.size) : (s.extract 0 3).toList = s.data.toList.take 3 := by
  rw [Lib.extract_toList, List.drop_zero]

set_option maxHeartbeats 2000000 in
set_option maxRecDepth 100000 in
theorem refKept_any (s : ByteArray) (w : World) (hs : s.size ≤ 8192) :
    Calls Tryd.prog 10 #[.string s] w fun e w' => e = .returned (.bool (keptP s.data.toList)) ∧ w' = w := by
  have hl := list_size s
  by_cases hg : Lib.hasPrefix s.data.toList [71, 76, 95] = true
  · have hk : keptP s.data.toList = true := by unfold keptP; rw [hg]; rfl
    have h2 : s.data.toList.take 3 = [71, 76, 95] := by
      unfold Lib.hasPrefix at hg
      exact (List.prefix_iff_eq_take.1 (List.isPrefixOf_iff_prefix.1 hg)).symm
    have h3 : 3 ≤ s.size := by
      have := congrArg List.length h2
      rw [List.length_take] at this
      simp at this
      simp
      omega
    have q : ((s.extract 0 3).toList == [71, 76, 95]) = true := by rw [ext3 s h3, h2]; rfl
    rw [hk]
    clear hk h2 hg
    go_enter Tryd.func10, Tryd.ntmps10
    go_wp2
    go_ret
    exact ⟨rfl, rfl⟩
  · have hk : keptP s.data.toList = Lib.contains s.data.toList [95, 95] := by unfold keptP; rw [Bool.eq_false_iff.2 hg]; rfl
    have q : 3 ≤ s.size → ((s.extract 0 3).toList == [71, 76, 95]) = false := fun h3 => by
      rw [ext3 s h3]
      refine beq_eq_false_iff_ne.2 (fun e => hg ?_)
      unfold Lib.hasPrefix
      rw [List.isPrefixOf_iff_prefix, List.prefix_iff_eq_take]
      exact e.symm
    obtain ⟨R, hR⟩ : ∃ R, Lib.contains s.data.toList [95, 95] = R := ⟨_, rfl⟩
    rw [hk, hR]
    have HR := hide hR
    have HQ := hide q
    clear hR hk hg q
    go_enter Tryd.func10, Tryd.ntmps10
    by_cases h3 : 3 ≤ s.size
    · have q := unhide HQ h3
      go_wp2
      go_loop [3] (fun iv => ∃ k : Nat, k ≤ s.size ∧ iv = .int .i64 k ∧ Lib.contains (s.data.toList.drop k) [95, 95] = R) (fun iv => s.size - (intOf iv).toNat)
      case atStart => exact ⟨0, by omega, rfl, unhide HR⟩
      case round =>
        obtain ⟨k, hk, rfl, hc⟩ := hrel
        by_cases h1 : k + 1 < s.size
        · have hkl : k < s.data.toList.length := by omega
          have hst := con_step s.data.toList k hkl
          have hp := pre2_drop s.data.toList k 95 95 hkl (by decide)
          rw [atP_get s k (by omega), atP_get s (k + 1) h1] at hp
          have v1 : ((s[k].toNat : Int) == 95) = (s[k] == 95) := u8beq s[k] 95
          have v2 : ((s[k + 1].toNat : Int) == 95) = (s[k + 1] == 95) := u8beq s[k + 1] 95
          rw [hc, hp] at hst
          have HST := hide hst
          clear hc hp hst
          cases hb : (s[k] == (95 : UInt8)) with
          | false =>
            rw [hb] at v1 HST
            have hc2 := (unhide HST).symm
            rw [Bool.false_and, Bool.false_or] at hc2
            have HC := hide hc2
            clear hc2 HST hb v2
            go_wp2
            refine ⟨⟨k + 1, by omega, rfl, unhide HC⟩, ?_⟩
            simp [intOf]
            omega
          | true =>
            rw [hb] at v1 HST
            cases hb2 : (s[k + 1] == (95 : UInt8)) with
            | false =>
              rw [hb2] at v2 HST
              have hc2 := (unhide HST).symm
              rw [Bool.true_and, Bool.false_or] at hc2
              have HC := hide hc2
              clear hc2 HST hb hb2
              go_wp2
              refine ⟨⟨k + 1, by omega, rfl, unhide HC⟩, ?_⟩
              simp [intOf]
              omega
            | true =>
              rw [hb2] at v2 HST
              have hr1 : R = true := unhide HST
              subst hr1
              clear HST hb hb2
              go_wp2
              go_ret
              exact ⟨rfl, rfl⟩
        · have hr1 : R = false := by rw [← hc]; exact con_short _ (by rw [List.length_drop]; omega)
          subst hr1
          clear hc
          go_wp2
          go_ret
          exact ⟨rfl, rfl⟩
    · go_wp2
      go_loop [3] (fun iv => ∃ k : Nat, k ≤ s.size ∧ iv = .int .i64 k ∧ Lib.contains (s.data.toList.drop k) [95, 95] = R) (fun iv => s.size - (intOf iv).toNat)
      case atStart => exact ⟨0, by omega, rfl, unhide HR⟩
      case round =>
        obtain ⟨k, hk, rfl, hc⟩ := hrel
        by_cases h1 : k + 1 < s.size
        · have hkl : k < s.data.toList.length := by omega
          have hst := con_step s.data.toList k hkl
          have hp := pre2_drop s.data.toList k 95 95 hkl (by decide)
          rw [atP_get s k (by omega), atP_get s (k + 1) h1] at hp
          have v1 : ((s[k].toNat : Int) == 95) = (s[k] == 95) := u8beq s[k] 95
          have v2 : ((s[k + 1].toNat : Int) == 95) = (s[k + 1] == 95) := u8beq s[k + 1] 95
          rw [hc, hp] at hst
          have HST := hide hst
          clear hc hp hst
          cases hb : (s[k] == (95 : UInt8)) with
          | false =>
            rw [hb] at v1 HST
            have hc2 := (unhide HST).symm
            rw [Bool.false_and, Bool.false_or] at hc2
            have HC := hide hc2
            clear hc2 HST hb v2
            go_wp2
            refine ⟨⟨k + 1, by omega, rfl, unhide HC⟩, ?_⟩
            simp [intOf]
            omega
          | true =>
            rw [hb] at v1 HST
            cases hb2 : (s[k + 1] == (95 : UInt8)) with
            | false =>
              rw [hb2] at v2 HST
              have hc2 := (unhide HST).symm
              rw [Bool.true_and, Bool.false_or] at hc2
              have HC := hide hc2
              clear hc2 HST hb hb2
              go_wp2
              refine ⟨⟨k + 1, by omega, rfl, unhide HC⟩, ?_⟩
              simp [intOf]
              omega
            | true =>
              rw [hb2] at v2 HST
              have hr1 : R = true := unhide HST
              subst hr1
              clear HST hb hb2
              go_wp2
              go_ret
              exact ⟨rfl, rfl⟩
        · have hr1 : R = false := by rw [← hc]; exact con_short _ (by rw [List.length_drop]; omega)
          subst hr1
          clear hc
          go_wp2
          go_ret
          exact ⟨rfl, rfl⟩
end Go.Proofs.YtgcliklpbahfaaaDoor

/-
  A word that may be defined, and is: plain.
-/
namespace Go.Proofs.YtgcliklpbahfaaaDoor
set_option linter.unusedVariables false
set_option linter.unusedSimpArgs false

theorem runN_whole {p : UInt8 → Bool} : ∀ {l : Byts8}, runN p l = l.length → ∀ b ∈ l, p b = true
  | [], _, b, hb => by cases hb
  | c :: l, h, b, hb => by
    rw [runN] at h
    split at h
    · rename_i hc
      have ih := runN_whole (p := p) (l := l) (by simpa using h)
      rcases List.mem_cons.1 hb with rfl | hb
      · exact hc
      · exact ih b hb
    · simp at h
theorem piece_word {l : Byts8} {z : Nat} (h : pieceP l = (1, z)) : z = runN isWd l := by
  unfold pieceP at h
  split at h
  · cases h
  split at h
  · cases h
  split at h
  · unfold comP at h
    split at h <;> cases h
  split at h
  · exact (Prod.mk.inj h).2.symm
  split at h
  · have := numP_kind l
    rw [h] at this
    simp at this
  · have := signP_kind l
    rw [h] at this
    simp at this
theorem word_lex {t : Byts8} (h : isWordL (lexP t).1 = true) (ht : ((hd0 (lexP t).1).text == t) = true) : lexA t 0 0 0 = ([⟨1, t, 0, 0, 0⟩], 0, 0) ∧ (∀ b ∈ t, isWd b = true) ∧ t.length ≤ 32 := by
  have hle : ¬ 8192 < t.length := fun hl => by
    unfold lexP at h
    rw [if_pos hl] at h
    cases h
  have hq : lexP t = lexA t 0 0 0 := by unfold lexP; rw [if_neg hle]
  rw [hq] at h ht
  have hf := lexA_form t 0 0 0
  obtain ⟨r, hr⟩ : ∃ r : List Tok × Int × Int, lexA t 0 0 0 = r := ⟨_, rfl⟩
  obtain ⟨L, e, p⟩ := r
  rw [hr] at h ht hf
  simp only at h ht hf
  have he : e = 0 := Classical.byContradiction fun hc => by
    rw [hf.2 hc] at h
    cases h
  have hp : p = 0 := hf.1 he
  subst he hp
  have hne : L ≠ [] := fun hc => by rw [hc] at h; cases h
  obtain ⟨k, z, x, l2, tm, ts', ln2, h1, h2, h3, h4, h5, h6, h7, h8, h9, _, _⟩ := lex_first hr hne
  subst h9
  have hts : ts' = [] := by
    cases ts' with
    | nil => rfl
    | cons a b => cases h
  subst hts
  have hk : k = 1 := by simpa [isWordL] using h
  have hx : x = t := by simpa [hd0] using ht
  subst hk hx
  have hsk := skip_le x
  have hlen := congrArg List.length h1
  rw [List.length_drop, List.length_append] at hlen
  have hl2 : l2 = [] := List.length_eq_zero_iff.1 (by omega)
  have hs0 : skipN x = 0 := by omega
  subst hl2
  rw [List.append_nil] at h4
  have hw := piece_word h4
  have htm : tm = 0 ∧ x.length ≤ 32 := by
    rw [h8]
    unfold tellP at h7 ⊢
    split at h7
    · cases h7
    rename_i c1
    rw [if_neg c1]
    split at h7
    · cases h7
    rename_i c2
    rw [if_neg c2]
    unfold measP at h7 ⊢
    rw [if_pos rfl] at h7 ⊢
    split at h7
    · cases h7
    rename_i c3
    rw [if_neg c3]
    exact ⟨rfl, by omega⟩
  obtain ⟨rfl, h32⟩ := htm
  refine ⟨?_, runN_whole (by omega), h32⟩
  rw [hr, hs0]
  simp [cntL, Lib.countByte]
theorem no_sl2 {a : Byts8} (h : ∀ b ∈ a, b ≠ 47) : ∀ i, pre2 47 47 (a.drop i) = false := no_sl (fun i hi => by
  rw [List.drop_eq_getElem_cons hi]
  have h1 := h a[i] (List.getElem_mem hi)
  cases hd : a.drop (i + 1) with
  | nil => exact pre2_one _ _ _
  | cons c r =>
    rw [pre2_cons]
    rw [show ((47 : UInt8) == a[i]) = false from beq_eq_false_iff_ne.2 (fun e => h1 e.symm)]
    rfl)
def defT : Byts8 := [35, 100, 101, 102, 105, 110, 101]
theorem lex_defT : lexA defT 0 0 0 = ([⟨4, [35], 0, 0, 0⟩, ⟨1, tDefine, 0, 1, 0⟩], 0, 0) := by
  rw [lexA_fuel 7 _ _ _ _ (by decide)]
  kernel_rfl
theorem lex_seven : lexA [55] 0 0 0 = ([⟨2, [55], 458752, 0, 0⟩], 0, 0) := by
  rw [lexA_fuel 1 _ _ _ _ (by decide)]
  kernel_rfl
theorem fresh_parts {t : Byts8} (hf : freshP t = true) : isWordL (lexP t).1 = true ∧ ((hd0 (lexP t).1).text == t) = true ∧ Lib.hasPrefix t [71, 76, 95] = false ∧ Lib.contains t [95, 95] = false := by
  unfold freshP at hf
  simp only [Bool.and_eq_true, Bool.not_eq_true'] at hf
  exact ⟨hf.1.1.1, hf.1.1.2, hf.1.2, hf.2⟩
/-- What PreFresh's text is told as. -/
theorem fresh_run {t : Byts8} (hf : freshP t = true) : ∃ n pl ln, runP (defT ++ 32 :: (t ++ 32 :: ([55] ++ 10 :: t))) = ([⟨2, [55], n, pl, ln⟩], 0, 0) := by
  obtain ⟨f1, f2, f3, f4⟩ := fresh_parts hf
  obtain ⟨hlx, hwd, hl32⟩ := word_lex f1 f2
  have h47 : ∀ b ∈ t, b ≠ 47 := fun b hb e => by
    have := hwd b hb
    subst e
    revert this
    decide
  have n1 : t ≠ wGles := fun e => by rw [e] at f3; revert f3; decide
  have n2 : t ≠ wVers := fun e => by rw [e] at f4; revert f4; decide
  have n3 : t ≠ wLine := fun e => by rw [e] at f4; revert f4; decide
  have n4 : t ≠ [35] := fun e => by
    have := hwd 35 (by rw [e]; simp)
    revert this
    decide
  have n5 : [55] ≠ t := fun e => by
    rw [← e, lex_seven] at hlx
    simp at hlx
  have hb0 : beginE t = none := by unfold beginE setE; rw [if_neg n2, if_neg n1]
  obtain ⟨A1, hA1⟩ : ∃ A1, A1 = defT ++ 32 :: t := ⟨_, rfl⟩
  obtain ⟨A2, hA2⟩ : ∃ A2, A2 = A1 ++ 32 :: [55] := ⟨_, rfl⟩
  have htext : defT ++ 32 :: (t ++ 32 :: ([55] ++ 10 :: t)) = A2 ++ 10 :: t := by rw [hA2, hA1]; simp
  have hA1l : A1.length = 8 + t.length := by rw [hA1]; simp [defT]; omega
  have hA2l : A2.length = 10 + t.length := by rw [hA2, List.length_append, hA1l]; simp; omega
  have hs1 : ∀ b ∈ A1, b ≠ 47 := fun b hb => by
    rw [hA1] at hb
    rcases List.mem_append.1 hb with hb | hb
    · exact (by decide : ∀ b ∈ defT, b ≠ 47) b hb
    · rcases List.mem_cons.1 hb with rfl | hb
      · decide
      · exact h47 b hb
  have m1 := lexA_move t.length t 0 0 0 _ (Nat.le_refl _) hlx 8 0 2 (by simp)
  have L1 : lexA A1 0 0 0 = ([⟨4, [35], 0, 0, 0⟩, ⟨1, tDefine, 0, 1, 0⟩, ⟨1, t, 0, 8, 0⟩], 0, 0) := by
    rw [hA1, lex_bl (by decide) t 7 defT 0 0 0 _ (by decide) (Or.inr (no_sl (by decide))) lex_defT]
    have e : lexA (32 :: t) ((0 : Int) + (defT.length : Nat)) ((0 : Int) + (cntL defT : Nat)) (0 + [(⟨4, [35], 0, 0, 0⟩ : Tok), ⟨1, tDefine, 0, 1, 0⟩].length) = ([⟨1, t, 0, 8, 0⟩], 0, 0) := by
      rw [lexA_one (by decide)]
      exact m1
    rw [e]
    simp
  have m2 := lexA_move 1 [55] 0 0 0 _ (by simp) lex_seven (A1.length + 1) (cntL A1) 3 (by simp)
  have L2 : lexA A2 0 0 0 = ([⟨4, [35], 0, 0, 0⟩, ⟨1, tDefine, 0, 1, 0⟩, ⟨1, t, 0, 8, 0⟩, ⟨2, [55], 458752, (A1.length : Int) + 1, (cntL A1 : Int)⟩], 0, 0) := by
    rw [hA2, lex_bl (by decide) [55] A1.length A1 0 0 0 _ (Nat.le_refl _) (Or.inr (no_sl2 hs1)) L1]
    have e : lexA (32 :: [55]) ((0 : Int) + (A1.length : Nat)) ((0 : Int) + (cntL A1 : Nat)) (0 + [(⟨4, [35], 0, 0, 0⟩ : Tok), ⟨1, tDefine, 0, 1, 0⟩, ⟨1, t, 0, 8, 0⟩].length) = ([⟨2, [55], 458752, (A1.length : Int) + 1, (cntL A1 : Int)⟩], 0, 0) := by
      rw [lexA_one (by decide)]
      have e2 : (0 : Int) + (A1.length : Nat) + 1 = 0 + ((A1.length : Int) + 1) := by omega
      have e3 : (0 : Int) + (cntL A1 : Nat) + (cntL [(32 : UInt8)] : Nat) = 0 + (cntL A1 : Int) := by simp [cntL, Lib.countByte]
      rw [e2, e3]
      have m := m2
      simp only [List.map_cons, List.map_nil, mvT, Int.zero_add] at m
      rw [Int.zero_add, Int.zero_add]
      exact m
    rw [e]
    simp
  have hc1 : cntL A1 = 0 := by
    unfold cntL Lib.countByte
    rw [List.count_eq_zero]
    intro hm
    rw [hA1] at hm
    rcases List.mem_append.1 hm with hm | hm
    · revert hm
      decide
    · rcases List.mem_cons.1 hm with hm | hm
      · revert hm
        decide
      · have := hwd 10 hm
        revert this
        decide
  rw [hc1] at L2
  obtain ⟨T4, hT4⟩ : ∃ T4 : List Tok, T4 = [⟨4, [35], 0, 0, 0⟩, ⟨1, tDefine, 0, 1, 0⟩, ⟨1, t, 0, 8, 0⟩, ⟨2, [55], 458752, (A1.length : Int) + 1, 0⟩] := ⟨_, rfl⟩
  have L2' : lexA A2 0 0 0 = (T4, 0, 0) := by rw [hT4]; exact L2
  have m3 := lexA_move t.length t 0 0 0 _ (Nat.le_refl _) hlx (A2.length + 1) (cntL A2 + 1) 4 (by simp)
  obtain ⟨u, hu⟩ : ∃ u : Tok, u = ⟨1, t, 0, (A2.length : Int) + 1, (cntL A2 : Int) + 1⟩ := ⟨_, rfl⟩
  have L3 : lexA (A2 ++ 10 :: t) 0 0 0 = (T4 ++ [u], 0, 0) := by
    rw [lex_bl (by decide) t A2.length A2 0 0 0 _ (Nat.le_refl _) (Or.inl rfl) L2']
    have e : lexA (10 :: t) ((0 : Int) + (A2.length : Nat)) ((0 : Int) + (cntL A2 : Nat)) (0 + T4.length) = ([u], 0, 0) := by
      rw [lexA_one (by decide)]
      have e3 : (cntL [(10 : UInt8)] : Int) = 1 := by simp [cntL, Lib.countByte]
      have e4 : 0 + T4.length = 4 := by rw [hT4]; rfl
      have m := m3
      simp only [List.map_cons, List.map_nil, mvT, Int.zero_add] at m
      rw [e3, e4, Int.zero_add, Int.zero_add, hu]
      exact m
    rw [e]
    simp
  have hl0 : ∀ x ∈ T4, x.line = 0 := fun x hx => by
    rw [hT4] at hx
    simp only [List.mem_cons, List.not_mem_nil, or_false] at hx
    rcases hx with rfl | rfl | rfl | rfl <;> rfl
  have hls : linesP (T4 ++ [u]) = [T4, [u]] := by
    rw [lines_app _ _ (fun x hx y hy => by
      rw [hl0 x hx]
      rw [List.mem_singleton] at hy
      rw [hy, hu]
      simp only
      omega), lines_one 0 _ (by rw [hT4]; simp) hl0]
    rfl
  have hrd := read_def (L := [⟨2, [55], 458752, (A1.length : Int) + 1, 0⟩]) (NT := [u]) hf hb0 n3 (t0 := ⟨4, [35], 0, 0, 0⟩) (t1 := ⟨1, tDefine, 0, 1, 0⟩) (t2 := ⟨1, t, 0, 8, 0⟩) rfl rfl rfl n4
    (fun y hy => by rw [List.mem_singleton] at hy; rw [hy, hu]) (fun y hy => by rw [List.mem_singleton] at hy; rw [hy]; exact ⟨by simp [plainT, wGles, wLine, wVers], n5⟩) (by simp) [[u]] (Or.inr ⟨rfl, by simp⟩)
  rw [htext]
  unfold runP
  have hP : lexP (A2 ++ 10 :: t) = (T4 ++ [u], 0, 0) := by
    unfold lexP
    rw [if_neg (by rw [List.length_append, List.length_cons]; omega), L3]
  rw [hP]
  simp only
  rw [if_neg (by simp), hls, hT4, hrd]
  refine ⟨458752, u.place, u.line, ?_⟩
  simp [atT]
end Go.Proofs.YtgcliklpbahfaaaDoor
