/-
  PreSkips: what stands in a part that does not count changes nothing; for every two texts. The library's tables are laid as the program's text lays them. (Written by mklsk.py.)
-/
import Derived.Test.YtinnikggaflpdaaDoorZR
import Derived.Test.YtinnikggaflpdaaDoorFrP
import Derived.ChangeMaps5
import Derived.SizedLaws
namespace Go.Proofs.YtinnikggaflpdaaDoor
open Go.ChangeShapes Go.WideShapes Go.ChangeAt Go.RowKit
open Go.ChangeMaps (open_string)
set_option linter.unusedSimpArgs false
set_option linter.unusedVariables false

theorem wpList_append_toks2 {w : World} {ops : Array Oper} {rest : List Oper} {o : Oper} {a : Act} {Q : Exit → Act → World → Prop} (hgd : o.guard = none) (s x : Operand)
    (ho : o.op = .call { callee := .builtin .append, args := #[s, x], argTypes := #[23, 23] }) (base : Nat) (v : Value) (L M : List Tok) (hs : a.eval s = v)
    (hown : TO w base v L) (ao : Option Addr) (c : Nat) (hx : a.eval x = .slice ao M.length c) (hrow : TR w (.slice ao M.length c) M) (hL : L.length + M.length ≤ 2932031007402) (hbase : base ≤ w.heap.size)
    (h : ∀ N v' w', N = L ++ M → TO w' base v' N → w.grownBy w' v.ownBlock → wpList Tryd.prog ops Q rest (a.put o.dst v') w') : wpList Tryd.prog ops Q (o :: rest) a w := by
  obtain ⟨i0, hi, hz0, hz1, hz2⟩ := info_parts3 infoT
  cases ao with
  | none =>
    have hM : M = [] := by
      cases M with
      | nil => rfl
      | cons t r =>
        obtain ⟨b, off, e, _⟩ := hrow.at 0 (by simp)
        cases e
    subst hM
    obtain ⟨_, _, e, h0, _⟩ := hrow
    cases e
    have hc0 := h0 rfl
    subst hc0
    refine wpList_append_own_none hgd s x 23 ho base 35 i0 5 Tryd.underlying23 hi v _ _ hs hown hx ?_
    exact h _ v w rfl (by rw [List.append_nil]; exact hown) (World.grownBy.refl _ _)
  | some ad =>
    refine wpList_append_own w hgd s x 23 ho base 35 i0 _ 5 48 Tryd.underlying23 hi hz0 hz1 hz2 rfl (by decide) v L.length (tcells L) hs hown ad M.length c (tcells M) hx (tcells_len M) ?_ ?_ (by unfold maxLen; omega) (by omega) hbase ?_
    · by_cases h0 : 0 < M.length
      · obtain ⟨b, off, e, _⟩ := hrow.at 0 h0
        cases e
        intro j u hu
        have hjl : j < (tcells M).length := (List.getElem?_eq_some_iff.1 hu).1
        rw [tcells_len] at hjl
        have hdm : j / 5 < M.length := by omega
        obtain ⟨b', off', e', ht⟩ := hrow.at (j / 5) hdm
        cases e'
        rw [Addr.add_lit]
        have hj : j = j / 5 * 5 + j % 5 := by omega
        have hu2 := hu
        rw [hj, tcells_get M (j / 5) hdm (j % 5) (by omega)] at hu2
        have h5 : j % 5 = 0 ∨ j % 5 = 1 ∨ j % 5 = 2 ∨ j % 5 = 3 ∨ j % 5 = 4 := by omega
        have e1 : off + j = off + j / 5 * 5 + j % 5 := by omega
        rw [e1]
        rcases h5 with h5 | h5 | h5 | h5 | h5
        · rw [h5] at hu2 ⊢; simp [tcell] at hu2; rw [← hu2]; exact ht.kind
        · rw [h5] at hu2 ⊢; simp [tcell] at hu2; rw [← hu2]; exact ht.text
        · rw [h5] at hu2 ⊢; simp [tcell] at hu2; rw [← hu2]; exact ht.num
        · rw [h5] at hu2 ⊢; simp [tcell] at hu2; rw [← hu2]; exact ht.place
        · rw [h5] at hu2 ⊢; simp [tcell] at hu2; rw [← hu2]; exact ht.line
      · have : M = [] := List.length_eq_zero_iff.1 (by omega)
        subst this
        intro j u hu
        simp [tcells] at hu
    · intro u hu
      obtain ⟨t, _, ht⟩ := List.mem_flatMap.1 hu
      exact tcell_ones t u ht
    · intro v' w' h1 h2 _
      rw [← tcells_append, ← List.length_append] at h1
      exact h _ v' w' rfl h1 h2
theorem Blk.grownO {w w' : World} {b : Nat} {cs : Array Value} {t : TypeId} {o : Option Nat} (h : Blk w b cs t) (hg : w.grownBy w' o) (hne : ∀ g, o = some g → b ≠ g) : Blk w' b cs t := by
  cases o with
  | none => exact (hg.block b h.lt (by simp)).trans h
  | some r => exact h.grown hg (hne r rfl)
theorem lexA_of {t : Byts8} {A : List Tok} {le lp : Int} (h : lexP t = (A, le, lp)) (h0 : le = 0) : lexA t 0 0 0 = (A, 0, 0) ∧ lexP t = (A, 0, 0) := by
  subst h0
  unfold lexP at h ⊢
  split at h
  · injection h with _ h2
    injection h2 with h2 _
    exact absurd h2 (by decide)
  · have h3 := (lexA_form t 0 0 0).1 (by rw [h])
    rw [h] at h3
    simp only at h3
    subst h3
    rename_i hh
    exact ⟨h, by rw [if_neg hh]; exact h⟩
theorem plain_ok {t : Byts8} (h : plainB t = true) : ∃ xs, lexA t 0 0 0 = (xs, 0, 0) ∧ lexP t = (xs, 0, 0) ∧ runP t = (xs, 0, 0) ∧ (∀ u ∈ xs, plainT u = true) := by
  unfold plainB at h
  rw [Bool.and_eq_true, List.all_eq_true] at h
  have h0 := of_decide_eq_true h.2
  have hr := run_plain t h0 h.1
  obtain ⟨xs, hxs⟩ : ∃ xs, xs = (lexP t).1 := ⟨_, rfl⟩
  have he : lexP t = (xs, (lexP t).2.1, (lexP t).2.2) := by rw [hxs]
  have h2 := lexA_of he h0
  refine ⟨xs, h2.1, h2.2, by rw [hr]; exact h2.2, ?_⟩
  rw [hxs]
  exact h.1

set_option maxHeartbeats 8000000 in
set_option maxRecDepth 100000 in
theorem preSkips_any (s k : ByteArray) (hs1 : s.size ≤ 1152921504606846975) (hk1 : k.size ≤ 1152921504606846975) (W : World) (m : Int) (hS : Std W m) :
    Calls Tryd.prog 7 #[.string s, .string k] W fun e w' => e = .returned (.bool true) ∧ Ext W w' := by
  have HS := hide hS
  clear hS
  go_enter Tryd.func7, Tryd.ntmps7
  go_wp2_with fail
  refine (wakes11_any W m (unhide HS)).mono ?_
  rintro e w1 ⟨rfl, hx1⟩
  have X1 := hide hx1
  clear hx1
  have q1 : IntKind.i64.wrap ((s.size : Int) + (k.size : Int)) = (s.size : Int) + (k.size : Int) := by exact wrapId (by omega) (by omega)
  by_cases h4 : 4000 < s.size + k.size
  · have g1 : decide ((4000 : Int) < (s.size : Int) + (k.size : Int)) = true := decide_eq_true (by omega)
    have g2 : (4000 : Int) < (s.size : Int) + (k.size : Int) := by omega
    go_wp2
    go_ret
    exact ⟨rfl, unhide X1⟩
  have g1 : decide ((4000 : Int) < (s.size : Int) + (k.size : Int)) = false := decide_eq_false (by omega)
  have HP1 := hide (plain_any s w1 m ((unhide HS).ext (unhide X1)).1)
  obtain ⟨pb1, hpb1⟩ : ∃ b, plainB s.data.toList = b := ⟨_, rfl⟩
  obtain ⟨pb2, hpb2⟩ : ∃ b, plainB k.data.toList = b := ⟨_, rfl⟩
  rw [hpb1] at HP1
  have HPB1 := hide hpb1
  have HPB2 := hide hpb2
  clear hpb1 hpb2
  go_wp2_with fail
  refine (unhide HP1).mono ?_
  rintro e w2 ⟨rfl, hx2⟩
  have X2 := hide ((unhide X1).trans hx2)
  clear hx2 HP1
  cases pb1 with
  | false =>
    go_wp2
    go_ret
    exact ⟨rfl, unhide X2⟩
  | true =>
  have HP2 := plain_any k w2 m ((unhide HS).ext (unhide X2)).1
  rw [unhide HPB2] at HP2
  have HP3 := hide HP2
  clear HP2
  go_wp2_with fail
  refine (unhide HP3).mono ?_
  rintro e w3 ⟨rfl, hx3⟩
  have X3 := hide ((unhide X2).trans hx3)
  clear hx3 HP3
  cases pb2 with
  | false =>
    go_wp2
    go_ret
    exact ⟨rfl, unhide X3⟩
  | true =>
  obtain ⟨xs, hxA, hxP, _, hxp⟩ := plain_ok (unhide HPB1)
  obtain ⟨ys, hyA, hyP, hyR, hyp⟩ := plain_ok (unhide HPB2)
  have hsz1 : s.size ≤ 4000 := by omega
  have hsz2 : k.size ≤ 4000 := by omega
  have HXA := hide hxA
  have HYA := hide hyA
  have HXP := hide hxp
  have HYP := hide hyp
  have hxl : xs.length ≤ 2048 := by
    have := lexA_count s.data.toList 0 0 0 (by omega) (by rw [hxA])
    rw [hxA] at this
    simpa using this
  have hyl : ys.length ≤ 2048 := by
    have := lexA_count k.data.toList 0 0 0 (by omega) (by rw [hyA])
    rw [hyA] at this
    simpa using this
  have HC1 := run2_any ((⟨#[35, 105, 102, 100, 101, 102, 32, 78, 79, 66, 79, 68, 89, 10]⟩ : ByteArray) ++ s ++ ⟨#[10, 35, 101, 108, 115, 101, 10]⟩ ++ k ++ ⟨#[10, 35, 101, 110, 100, 105, 102]⟩) w3 m ((unhide HS).ext (unhide X3))
  have et1 : ((⟨#[35, 105, 102, 100, 101, 102, 32, 78, 79, 66, 79, 68, 89, 10]⟩ : ByteArray) ++ s ++ ⟨#[10, 35, 101, 108, 115, 101, 10]⟩ ++ k ++ ⟨#[10, 35, 101, 110, 100, 105, 102]⟩).data.toList = aIfd ++ 10 :: (s.data.toList ++ 10 :: (aEls ++ 10 :: (k.data.toList ++ 10 :: aEnd))) := by
    simp [ByteArray.data_append, aIfd, aEls, aEnd, tIfdef, tElse, tEndif, wNobody]
  rw [et1] at HC1
  obtain ⟨R1, hR1⟩ : ∃ R, runP (aIfd ++ 10 :: (s.data.toList ++ 10 :: (aEls ++ 10 :: (k.data.toList ++ 10 :: aEnd)))) = R := ⟨_, rfl⟩
  rw [hR1] at HC1
  obtain ⟨G1, ra1, rb1⟩ := R1
  have HR1 := hide hR1
  have C1 := hide HC1
  have HHX := hide hxP
  have HHY := hide hyP
  have HHR := hide hyR
  clear HC1 et1 hR1 hxA hyA hxp hyp hxP hyP hyR g1 q1
  go_wp2_with fail
  refine (unhide C1).mono ?_
  rintro e wc1 ⟨ao1, ca1, rfl, hO1, hx1⟩
  simp only at hO1 ⊢
  have XA1 := hide (((unhide X3).trans hx1).alloc (.cells #[.int .i64 ra1, .int .i64 rb1] 26))
  have XS1 := hide (hx1.alloc (.cells #[.int .i64 ra1, .int .i64 rb1] 26))
  have HT1 := hide (hO1.tr.ext ((Ext.refl wc1).alloc (.cells #[.int .i64 ra1, .int .i64 rb1] 26)))
  have HO1 := hide (hO1.ext ((Ext.refl wc1).alloc (.cells #[.int .i64 ra1, .int .i64 rb1] 26)))
  have HB1 := hide (Blk.new wc1 #[.int .i64 ra1, .int .i64 rb1] 26)
  have HLT1 := hide (show ∀ g, _ = some g → g < wc1.heap.size from fun g hg => (World.ownsRow.lt hO1 g hg).2)
  obtain ⟨wa1, hwa1⟩ : ∃ w, w = wc1.alloc (.cells #[.int .i64 ra1, .int .i64 rb1] 26) := ⟨_, rfl⟩
  obtain ⟨pb1, hpb1⟩ : ∃ b, b = wc1.heap.size := ⟨_, rfl⟩
  rw [← hwa1] at XA1 XS1 HT1 HO1 HB1
  rw [← hpb1] at HB1 HLT1
  have HC2 := run2_any ((⟨#[35, 105, 102, 110, 100, 101, 102, 32, 78, 79, 66, 79, 68, 89, 10]⟩ : ByteArray) ++ k ++ ⟨#[10, 35, 101, 108, 115, 101, 10]⟩ ++ s ++ ⟨#[10, 35, 101, 110, 100, 105, 102]⟩) wa1 m ((unhide HS).ext (unhide XA1))
  have et1 : ((⟨#[35, 105, 102, 110, 100, 101, 102, 32, 78, 79, 66, 79, 68, 89, 10]⟩ : ByteArray) ++ k ++ ⟨#[10, 35, 101, 108, 115, 101, 10]⟩ ++ s ++ ⟨#[10, 35, 101, 110, 100, 105, 102]⟩).data.toList = aIfn ++ 10 :: (k.data.toList ++ 10 :: (aEls ++ 10 :: (s.data.toList ++ 10 :: aEnd))) := by
    simp [ByteArray.data_append, aIfn, aEls, aEnd, tIfndef, tElse, tEndif, wNobody]
  rw [et1] at HC2
  obtain ⟨R2, hR2⟩ : ∃ R, runP (aIfn ++ 10 :: (k.data.toList ++ 10 :: (aEls ++ 10 :: (s.data.toList ++ 10 :: aEnd)))) = R := ⟨_, rfl⟩
  rw [hR2] at HC2
  obtain ⟨G2, ra2, rb2⟩ := R2
  have HR2 := hide hR2
  have C2 := hide HC2
  clear HC2 et1 hR2
  clear hO1 hx1 C1
  go_wp2_with fail
  rw [← hwa1, ← hpb1]
  clear hwa1 hpb1
  refine (unhide C2).mono ?_
  rintro e wc2 ⟨ao2, ca2, rfl, hO2, hx2⟩
  simp only at hO2 ⊢
  have XA2 := hide (((unhide XA1).trans hx2).alloc (.cells #[.int .i64 ra2, .int .i64 rb2] 26))
  have XS2 := hide (hx2.alloc (.cells #[.int .i64 ra2, .int .i64 rb2] 26))
  have HT2 := hide (hO2.tr.ext ((Ext.refl wc2).alloc (.cells #[.int .i64 ra2, .int .i64 rb2] 26)))
  have HO2 := hide (hO2.ext ((Ext.refl wc2).alloc (.cells #[.int .i64 ra2, .int .i64 rb2] 26)))
  have HB2 := hide (Blk.new wc2 #[.int .i64 ra2, .int .i64 rb2] 26)
  have HLT2 := hide (show ∀ g, _ = some g → g < wc2.heap.size from fun g hg => (World.ownsRow.lt hO2 g hg).2)
  obtain ⟨wa2, hwa2⟩ : ∃ w, w = wc2.alloc (.cells #[.int .i64 ra2, .int .i64 rb2] 26) := ⟨_, rfl⟩
  obtain ⟨pb2, hpb2⟩ : ∃ b, b = wc2.heap.size := ⟨_, rfl⟩
  rw [← hwa2] at XA2 XS2 HT2 HO2 HB2
  rw [← hpb2] at HB2 HLT2
  replace HT1 := hide ((unhide HT1).ext (unhide XS2))
  replace HB1 := hide ((unhide HB1).ext (unhide XS2))
  have HC3 := run2_any k wa2 m ((unhide HS).ext (unhide XA2))
  rw [unhide HHR] at HC3
  have C3 := hide HC3
  clear HC3
  clear hO2 hx2 C2
  go_wp2_with fail
  rw [← hwa2, ← hpb2]
  clear hwa2 hpb2
  refine (unhide C3).mono ?_
  rintro e wc3 ⟨ao3, ca3, rfl, hO3, hx3⟩
  simp only at hO3 ⊢
  have XA3 := hide (((unhide XA2).trans hx3).alloc (.cells #[.int .i64 0, .int .i64 0] 26))
  have XS3 := hide (hx3.alloc (.cells #[.int .i64 0, .int .i64 0] 26))
  have HT3 := hide (hO3.tr.ext ((Ext.refl wc3).alloc (.cells #[.int .i64 0, .int .i64 0] 26)))
  have HO3 := hide (hO3.ext ((Ext.refl wc3).alloc (.cells #[.int .i64 0, .int .i64 0] 26)))
  have HB3 := hide (Blk.new wc3 #[.int .i64 0, .int .i64 0] 26)
  have HLT3 := hide (show ∀ g, _ = some g → g < wc3.heap.size from fun g hg => (World.ownsRow.lt hO3 g hg).2)
  obtain ⟨wa3, hwa3⟩ : ∃ w, w = wc3.alloc (.cells #[.int .i64 0, .int .i64 0] 26) := ⟨_, rfl⟩
  obtain ⟨pb3, hpb3⟩ : ∃ b, b = wc3.heap.size := ⟨_, rfl⟩
  rw [← hwa3] at XA3 XS3 HT3 HO3 HB3
  rw [← hpb3] at HB3 HLT3
  replace HT1 := hide ((unhide HT1).ext (unhide XS3))
  replace HB1 := hide ((unhide HB1).ext (unhide XS3))
  replace HT2 := hide ((unhide HT2).ext (unhide XS3))
  replace HB2 := hide ((unhide HB2).ext (unhide XS3))
  have ZT1 := HT1
  have ZT2 := HT2
  have ZT3 := HT3
  have ZB1 := HB1
  have ZB2 := HB2
  have ZB3 := HB3
  have HC4 := lex_any s wa3 m ((unhide HS).ext (unhide XA3)).1
  rw [unhide HHX] at HC4
  have C4 := hide HC4
  clear HC4
  clear hO3 hx3 C3
  go_wp2_with fail
  rw [← hwa3, ← hpb3]
  clear hwa3 hpb3
  refine (unhide C4).mono ?_
  rintro e wc4 ⟨ao4, ca4, rfl, hO4, hx4⟩
  simp only at hO4 ⊢
  have XA4 := hide (((unhide XA3).trans hx4).alloc (.cells #[.int .i64 0, .int .i64 0] 26))
  have XS4 := hide (hx4.alloc (.cells #[.int .i64 0, .int .i64 0] 26))
  have HT4 := hide (hO4.tr.ext ((Ext.refl wc4).alloc (.cells #[.int .i64 0, .int .i64 0] 26)))
  have HO4 := hide (hO4.ext ((Ext.refl wc4).alloc (.cells #[.int .i64 0, .int .i64 0] 26)))
  have HB4 := hide (Blk.new wc4 #[.int .i64 0, .int .i64 0] 26)
  have HLT4 := hide (show ∀ g, _ = some g → g < wc4.heap.size from fun g hg => (World.ownsRow.lt hO4 g hg).2)
  obtain ⟨wa4, hwa4⟩ : ∃ w, w = wc4.alloc (.cells #[.int .i64 0, .int .i64 0] 26) := ⟨_, rfl⟩
  obtain ⟨pb4, hpb4⟩ : ∃ b, b = wc4.heap.size := ⟨_, rfl⟩
  rw [← hwa4] at XA4 XS4 HT4 HO4 HB4
  rw [← hpb4] at HB4 HLT4
  replace HT1 := hide ((unhide HT1).ext (unhide XS4))
  replace HB1 := hide ((unhide HB1).ext (unhide XS4))
  replace HT2 := hide ((unhide HT2).ext (unhide XS4))
  replace HB2 := hide ((unhide HB2).ext (unhide XS4))
  replace HT3 := hide ((unhide HT3).ext (unhide XS4))
  replace HB3 := hide ((unhide HB3).ext (unhide XS4))
  have HBL4 := hide (unhide HB4).lt
  have HC5 := lex_any k wa4 m ((unhide HS).ext (unhide XA4)).1
  rw [unhide HHY] at HC5
  have C5 := hide HC5
  clear HC5
  clear hO4 hx4 C4
  go_wp2_with fail
  rw [← hwa4, ← hpb4]
  clear hwa4 hpb4
  refine (unhide C5).mono ?_
  rintro e wc5 ⟨ao5, ca5, rfl, hO5, hx5⟩
  simp only at hO5 ⊢
  have XA5 := hide (((unhide XA4).trans hx5).alloc (.cells #[.int .i64 0, .int .i64 0] 26))
  have XS5 := hide (hx5.alloc (.cells #[.int .i64 0, .int .i64 0] 26))
  have HT5 := hide (hO5.tr.ext ((Ext.refl wc5).alloc (.cells #[.int .i64 0, .int .i64 0] 26)))
  have HO5 := hide (hO5.ext ((Ext.refl wc5).alloc (.cells #[.int .i64 0, .int .i64 0] 26)))
  have HB5 := hide (Blk.new wc5 #[.int .i64 0, .int .i64 0] 26)
  have HLT5 := hide (show ∀ g, _ = some g → g < wc5.heap.size from fun g hg => (World.ownsRow.lt hO5 g hg).2)
  obtain ⟨wa5, hwa5⟩ : ∃ w, w = wc5.alloc (.cells #[.int .i64 0, .int .i64 0] 26) := ⟨_, rfl⟩
  obtain ⟨pb5, hpb5⟩ : ∃ b, b = wc5.heap.size := ⟨_, rfl⟩
  rw [← hwa5] at XA5 XS5 HT5 HO5 HB5
  rw [← hpb5] at HB5 HLT5
  replace HT1 := hide ((unhide HT1).ext (unhide XS5))
  replace HB1 := hide ((unhide HB1).ext (unhide XS5))
  replace HT2 := hide ((unhide HT2).ext (unhide XS5))
  replace HB2 := hide ((unhide HB2).ext (unhide XS5))
  replace HT3 := hide ((unhide HT3).ext (unhide XS5))
  replace HB3 := hide ((unhide HB3).ext (unhide XS5))
  replace HT4 := hide ((unhide HT4).ext (unhide XS5))
  replace HB4 := hide ((unhide HB4).ext (unhide XS5))
  replace HO4 := hide ((unhide HO4).ext (unhide XS5))
  have HLE5 := hide (show wa4.heap.size ≤ pb5 by rw [hpb5]; exact hx5.size)
  clear hO5 hx5 C5
  have HO4r := (unhide HO4).lower (b2 := wa3.heap.size) (Nat.le_add_right _ 2)
  have HOL := hide HO4r
  rw [hwa5] at HO4r
  have HO4R := hide HO4r
  have HT5r := unhide HT5
  rw [hwa5] at HT5r
  have HT5R := hide HT5r
  have hsz5 : wa3.heap.size ≤ wa5.heap.size := Nat.le_trans (unhide XS4).size (unhide XS5).size
  rw [hwa5] at hsz5
  have HSZ5 := hide hsz5
  have HWA5 := hide hwa5
  have HPB5 := hide hpb5
  clear HO4r HT5r hsz5 hwa5 hpb5
  go_wp2_with (at_builtin; refine wpList_append_toks2 rfl (.tmp 74) (.tmp 75) rfl wa3.heap.size _ xs ys rfl (unhide HO4R) ao5 ca5 rfl (unhide HT5R) ?c1 (unhide HSZ5) ?_)
  case c1 => omega
  rw [← unhide HWA5, ← unhide HPB5]
  intro N v7 w7 hN hO7 hg7
  obtain ⟨ao7, ca7, hv7, _⟩ := hO7.shape
  subst hv7
  have hx37 : Ext wa3 w7 := Below.trans ((unhide XS4).trans (unhide XS5)) (grown_below hg7 (Nat.le_trans (unhide XS4).size (unhide XS5).size) (fun g hg => (World.ownsRow.lt (unhide HOL) g hg).1))
  have X7 := hide ((unhide XA3).trans hx37)
  have T1 := hide ((unhide ZT1).ext hx37)
  have T2 := hide ((unhide ZT2).ext hx37)
  have T3 := hide ((unhide ZT3).ext hx37)
  have B1 := hide ((unhide ZB1).ext hx37)
  have B2 := hide ((unhide ZB2).ext hx37)
  have B3 := hide ((unhide ZB3).ext hx37)
  have B4 := hide ((unhide HB4).grownO hg7 (fun g hg => by have := unhide HLT4 g hg; omega))
  have B5 := hide ((unhide HB5).grownO hg7 (fun g hg => by have := unhide HLT4 g hg; have h1 := unhide HBL4; have h2 := unhide HLE5; omega))
  have HN := hide hO7.tr
  have hNl : N.length ≤ 4096 := by rw [hN, List.length_append]; omega
  clear hN hO7 hg7 hx37 ZT1 ZT2 ZT3 ZB1 ZB2 ZB3 HT1 HT2 HT3 HT4 HT5 HB1 HB2 HB3 HB4 HB5 HO1 HO2 HO3 HO4 HO5 HLT1 HLT2 HLT3 HLT4 HLT5 HBL4 HLE5 HOL HO4R HT5R HSZ5 XS1 XS2 XS3 XS4 XS5 XA1 XA2 XA4 XA5
  go_wp2
  go_loopw [78] (fun iv wr => ∃ i : Nat, i ≤ N.length ∧ iv = .int .i64 (i : Int) ∧ Ext w7 wr) (fun iv _ => N.length - (intOf iv).toNat)
  case atStart => exact ⟨0, by omega, rfl, Ext.refl _⟩
  case round =>
    obtain ⟨i, hi, rfl, hx⟩ := hrel
    have X := hide hx
    clear hx
    by_cases hlt : i < N.length
    · obtain ⟨b1, o1, e1, h1⟩ := ((unhide HN).ext (unhide X)).at i hlt
      subst e1
      have c0 := h1.kind; have c1 := h1.text; have c2 := h1.num; have c3 := h1.place; have c4 := h1.line
      clear h1
      generalize N[i] = x at *
      have XN : Hid (Ext W (wr.alloc (.cells #[.int .i64 x.kind, .string ⟨x.text.toArray⟩, .int .i32 x.num, .int .i64 x.place, .int .i64 x.line] 35))) := ((unhide X7).trans (unhide X)).alloc _
      have XM : Hid (Ext w7 (wr.alloc (.cells #[.int .i64 x.kind, .string ⟨x.text.toArray⟩, .int .i32 x.num, .int .i64 x.place, .int .i64 x.line] 35))) := (unhide X).alloc _
      cases f1 : (x.text == [78, 79, 66, 79, 68, 89]) with
      | true =>
        go_wp2
        go_ret
        exact ⟨rfl, unhide XN⟩
      | false =>
        go_wp2
        refine ⟨⟨i + 1, by omega, by push_cast; rfl, unhide XM⟩, ?_⟩
        simp [intOf]
        omega
    · have X8 := hide ((unhide X7).trans (unhide X))
      have q1 : IntKind.i64.wrap ((xs.length : Int) + (ys.length : Int)) = (xs.length : Int) + (ys.length : Int) := by exact wrapId (by omega) (by omega)
      by_cases h2028 : 2028 < xs.length + ys.length
      · have g1 : decide ((2028 : Int) < (xs.length : Int) + (ys.length : Int)) = true := decide_eq_true (by omega)
        have g2 : (2028 : Int) < (xs.length : Int) + (ys.length : Int) := by omega
        go_wp2
        go_ret
        exact ⟨rfl, unhide X8⟩
      have g1 : decide ((2028 : Int) < (xs.length : Int) + (ys.length : Int)) = false := decide_eq_false (by omega)
      have hlen2 : s.data.toList.length + k.data.toList.length ≤ 4000 := by
        have e1 : s.data.toList.length = s.size := by rw [Array.length_toList]; rfl
        have e2 : k.data.toList.length = k.size := by rw [Array.length_toList]; rfl
        omega
      obtain ⟨⟨dp, dl, hr1⟩, ⟨dp2, dl2, hr2⟩⟩ := skips_run (unhide HXA) (unhide HYA) (unhide HXP) (unhide HYP) (by omega) hlen2
      have e1 := (unhide HR1).symm.trans hr1
      have e2 := (unhide HR2).symm.trans hr2
      injection e1 with hG1 e1
      injection e1 with ea1 eb1
      injection e2 with hG2 e2
      injection e2 with ea2 eb2
      have hl1 : G1.length = ys.length := by rw [hG1, List.length_map]
      have hl2 : G2.length = ys.length := by rw [hG2, List.length_map]
      have HTX1 := hide (fun wx (hx : Ext wr wx) => texts_any G1 ao1 ca1 wx (((unhide T1).ext (unhide X)).ext hx) (by omega))
      have HTX2 := hide (fun wx (hx : Ext wr wx) => texts_any G2 ao2 ca2 wx (((unhide T2).ext (unhide X)).ext hx) (by omega))
      have HTX3 := hide (fun wx (hx : Ext wr wx) => texts_any ys ao3 ca3 wx (((unhide T3).ext (unhide X)).ext hx) (by omega))
      rw [ea1, eb1] at B1
      rw [ea2, eb2] at B2
      have s10 := ((unhide B1).ext (unhide X)).cell (i := 0) (v := .int .i64 0) rfl
      have s11 := ((unhide B1).ext (unhide X)).cell (i := 1) (v := .int .i64 0) rfl
      have s20 := ((unhide B2).ext (unhide X)).cell (i := 0) (v := .int .i64 0) rfl
      have s21 := ((unhide B2).ext (unhide X)).cell (i := 1) (v := .int .i64 0) rfl
      have s30 := ((unhide B3).ext (unhide X)).cell (i := 0) (v := .int .i64 0) rfl
      have s31 := ((unhide B3).ext (unhide X)).cell (i := 1) (v := .int .i64 0) rfl
      have s40 := ((unhide B4).ext (unhide X)).cell (i := 0) (v := .int .i64 0) rfl
      have s41 := ((unhide B4).ext (unhide X)).cell (i := 1) (v := .int .i64 0) rfl
      have s50 := ((unhide B5).ext (unhide X)).cell (i := 0) (v := .int .i64 0) rfl
      have s51 := ((unhide B5).ext (unhide X)).cell (i := 1) (v := .int .i64 0) rfl
      have HG1 : Hid (∀ (j : Nat) (h : j < ys.length) (h' : j < G1.length), G1[j].text = ys[j].text) := fun j h h' => by subst hG1; simp [mvT]
      have HG2 : Hid (∀ (j : Nat) (h : j < ys.length) (h' : j < G2.length), G2[j].text = ys[j].text) := fun j h h' => by subst hG2; simp [mvT]
      rw [hl1] at HTX1
      rw [hl2] at HTX2
      simp only [hl1, hl2, ea1, eb1, ea2, eb2]
      have HL1 := hide hl1
      have HL2 := hide hl2
      clear hr1 hr2 hG1 hG2 ea1 eb1 ea2 eb2 hl1 hl2 B1 B2 B3 B4 B5 T1 T2 T3
      obtain ⟨w8, hw8⟩ : ∃ w8, w8 = wr := ⟨_, rfl⟩
      subst hw8
      go_wp2_with fail
      refine (unhide HTX1 _ (Ext.refl _)).mono ?_
      rintro e wt1 ⟨ro1, rc1, rfl, hSO1, hxt1⟩
      have Y1 := hide hxt1
      have S1 := hide hSO1
      clear hSO1 hxt1 s10 s11 s20 s21 s30 s31 s40 s41 s50 s51
      go_wp2_with fail
      refine (unhide HTX2 _ (unhide Y1)).mono ?_
      rintro e wt2 ⟨ro2, rc2, rfl, hSO2, hxt2⟩
      have Y2 := hide ((unhide Y1).trans hxt2)
      replace S1 := hide ((unhide S1).ext hxt2)
      have S2 := hide hSO2
      clear hSO2 hxt2
      go_wp2_with fail
      refine (unhide HTX3 _ (unhide Y2)).mono ?_
      rintro e wt3 ⟨ro3, rc3, rfl, hSO3, hxt3⟩
      have Y3 := hide ((unhide Y2).trans hxt3)
      replace S1 := hide ((unhide S1).ext hxt3)
      replace S2 := hide ((unhide S2).ext hxt3)
      have S3 := hide hSO3
      clear hSO3 hxt3
      go_wp2
      go_loopw [137] (fun iv wq => ∃ i : Nat, i ≤ ys.length ∧ iv = .int .i64 (i : Int) ∧ Ext wt3 wq) (fun iv _ => ys.length - (intOf iv).toNat)
      case atStart => exact ⟨0, by omega, rfl, Ext.refl _⟩
      case round =>
        obtain ⟨j, hj, rfl, hxj⟩ := hrel
        have XJ := hide hxj
        have X10 := hide (((unhide X8).trans (unhide Y3)).trans hxj)
        clear hxj
        by_cases hjl : j < ys.length
        · obtain ⟨g1', c1', e1, a1⟩ := ((unhide S1).ext (unhide XJ)).at j (by rw [unhide HL1]; exact hjl)
          obtain ⟨g2', c2', e2, a2⟩ := ((unhide S2).ext (unhide XJ)).at j (by rw [unhide HL2]; exact hjl)
          obtain ⟨g3', c3', e3, a3⟩ := ((unhide S3).ext (unhide XJ)).at j hjl
          replace e1 := (Value.slice.inj e1).1
          replace e2 := (Value.slice.inj e2).1
          replace e3 := (Value.slice.inj e3).1
          subst e1
          subst e2
          subst e3
          rw [unhide HG1 j hjl (by rw [unhide HL1]; exact hjl)] at a1
          rw [unhide HG2 j hjl (by rw [unhide HL2]; exact hjl)] at a2
          obtain ⟨tt, htt⟩ : ∃ tt, tt = ys[j].text := ⟨_, rfl⟩
          rw [← htt] at a1 a2 a3
          have i2 : (0 : Int) ≤ (j : Int) ∧ (j : Int) < (ys.length : Int) := ⟨by omega, by omega⟩
          clear htt
          go_wp2
          go_quiet (fail)
          go_wp2
          refine ⟨⟨j + 1, by omega, by push_cast; rfl, (unhide XJ).drewN _⟩, ?_⟩
          simp [intOf]
          omega
        · go_wp2
          go_ret
          exact ⟨rfl, unhide X10⟩

set_option maxRecDepth 100000 in
theorem preSkips_owes (H : Type) (enc : TypeId × Value → H) (W : World) (base : Nat) (args : Array Value) (ds : List (DataW H)) (p : List MemPlace) : OwesP H enc Tryd.prog 7 Tryd.f7 Rows.preSkipsSpec laidL W base args ds p := by
  intro hval hA hsz hL hsh
  have hT := tab_of_laid hL
  clear hL
  rw [Tryd.params7] at hA hval hsz
  obtain ⟨v0, vs0, d0, ds0, p0, q0, hargs, rfl, rfl, h0, r0⟩ := trodAll_cons hA
  obtain ⟨v1, vs1, d1, ds1, p1, q1, rfl, rfl, rfl, h1, r1⟩ := trodAll_cons r0
  obtain ⟨rfl, rfl, rfl⟩ := trodAll_nil r1
  obtain rfl : args = #[v0, v1] := by cases args; simp_all
  obtain ⟨s, rfl, rfl, rfl, ws⟩ := open_string Tryd.underlying9 (hval 0 9 v0 rfl rfl) h0
  obtain ⟨k, rfl, rfl, rfl, wk⟩ := open_string Tryd.underlying9 (hval 1 9 v1 rfl rfl) h1
  obtain ⟨m, hm⟩ := Tryd.laysM143.s1_3 W hsh
  have z0 := sized_string hsz (j := 0) rfl rfl
  have z1 := sized_string hsz (j := 1) rfl rfl
  have hr := reachBytes_lt
  rw [Array.length_toList] at z0 z1
  have y0 : s.data.size = s.size := rfl
  have y1 : k.data.size = k.size := rfl
  exact ⟨⟨rfl, rfl, rfl⟩, preSkips_any s k (by omega) (by omega) W m ⟨hm, hT⟩⟩

set_option maxRecDepth 100000 in
theorem preSkips_lifted (os : Os) (started : os.Started) (H : Type) (enc : TypeId × Value → H) :
    ReturnsInHanded {} Tryd.checked os 7 .any (fun w args => (Rows.preSkipsSpec.pre enc Tryd.prog Tryd.f7 Rows.preSkipsRow.domain false w args ∧ laidMetH Tryd.prog Rows.preSkipsRow.laid w) ∧ sizedMet enc Tryd.prog Tryd.f7 (OpenSpec.ofChange Rows.preSkipsSpec) false w args) (Rows.preSkipsSpec.post enc Tryd.prog Tryd.f7 false true false false) :=
  lift_law_both (C := Tryd.checked) (laid := laidL) own laidOut started (by kernel_rfl) Tryd.func7 (T := 4) rfl Tryd.underlying4 rfl (by kernel_rfl)
    (ChangeSpec.witness_shaped (enc := enc) (C := Tryd.checked) (os := os) (X := fun w _ => laidMetH Tryd.prog laidL w) false (World.laidAll Tryd.prog os laidL) #[.string ⟨#[]⟩, .string ⟨#[]⟩] 8 (World.laidAll_os _ _ _)
      (World.shaped_of_ZipB (by kernel_rfl) (by kernel_rfl)) (by kernel_rfl) (by kernel_rfl) (by kernel_rfl) (laid_fits os _)) (preSkips_owes H enc)

theorem preSkips_row : Rows.PreSkipsSaid :=
  OpenClaim.holds_of_wide 7 Tryd.f7 rfl rfl rfl rfl rfl rfl rfl ⟨rfl, rfl, rfl, rfl, rfl⟩ rfl rfl rfl rfl rfl (by kernel_rfl) Tryd.func7 (by kernel_rfl)
    (of_decide_eq_true (by kernel_rfl)) (by unfold Func.isWrapper; rw [if_neg (of_decide_eq_false (by kernel_rfl))]; exact ⟨rfl, rfl⟩)
    (fun os started H enc _ => preSkips_lifted os started H enc)

theorem preSkips_plain (f : FuncId) (fn : Func) (hf : Tryd.pinned.checked.prog.funcNamed "paintbox/paintboxlaw11.PreSkips" = some f) (hfn : Tryd.pinned.checked.prog.funcs[f]? = some fn) :
    false = Tryd.pinned.checked.prog.looks [] ∧ ∀ (j : Nat) t, fn.params[j]? = some t → Tryd.pinned.checked.prog.wantsStandIn t = false := by
  obtain rfl : f = 7 := Option.some.inj ((show Tryd.prog.funcNamed "paintbox/paintboxlaw11.PreSkips" = some 7 by kernel_rfl).symm.trans hf) |>.symm
  obtain rfl : fn = Tryd.f7 := (Option.some.inj (Tryd.func7.symm.trans hfn)).symm
  refine ⟨by kernel_rfl, fun j t ht => ?_⟩
  rw [Tryd.params7] at ht
  have hm : t ∈ [9, 9] := by simpa using Array.mem_of_getElem? ht
  have hall : ([9, 9].all fun u => !Tryd.prog.wantsStandIn u) = true := by kernel_rfl
  exact (show Tryd.prog.wantsStandIn t = false by simpa using List.all_eq_true.1 hall t hm)

theorem preSkips_holds : Rows.PreSkipsCardSaid :=
  Claim7.holds_tied_plain_at .later [] _ _ _ _ preSkips_row (fun _ h => by cases h) (by kernel_rfl) (fun _ h => by cases h) preSkips_row_tie rfl ⟨rfl, rfl⟩ (by kernel_rfl) rfl preSkips_plain (by kernel_rfl)
#print axioms preSkips_holds
end Go.Proofs.YtinnikggaflpdaaDoor
