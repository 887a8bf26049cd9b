/-
  few: tokens that can be played in time, with room behind them.
-/
import Derived.Test.YtgoldmohmjjngaaXG
import Derived.Deep.RegionHeld3
import Derived.Great.BuildSlice
import Derived.Laws.MakeOwn
import Derived.Deep.DeepCutAuto
import Derived.Laws.AppendOwnNone
namespace Go.Proofs.Ytgoldmohmjjngaa
open Go.RowKit
set_option linter.unusedSimpArgs false
set_option linter.unusedVariables false

def t77 : Tok := ⟨77, [], 0, 0, 0⟩
def cutT (t : Tok) : Tok := ⟨t.kind, t.text.take 100, t.num, t.place, t.line⟩
/-- The first tokens, their texts cut. -/
def fewL (L : List Tok) : List Tok := (L.take 2049).map cutT

theorem TR.lit {w : World} {g : Nat} (h : Blk w g #[.int .i64 77, .string ⟨#[]⟩, .int .i32 0, .int .i64 0, .int .i64 0] 33) : TR w (.slice (some ⟨g, 0, none⟩) 1 1) [t77] := by
  refine ⟨_, 1, rfl, (fun h => by cases h), Nat.le_refl _, by unfold maxLen; omega, fun i hi => ⟨_, 0, rfl, ?_⟩⟩
  have : i = 0 := by simp at hi; omega
  subst this
  exact ⟨h.cell rfl, h.cell rfl, h.cell rfl, h.cell rfl, h.cell rfl⟩
theorem TR.cells {w : World} {b off n cap : Nat} {L : List Tok} (h : TR w (.slice (some ⟨b, off, none⟩) n cap) L) (hne : 0 < L.length) : ∀ j u, (tcells L)[j]? = some u → w.cell? ((⟨b, off, none⟩ : Addr).add j) = some u := by
  intro j u hu
  have hjl : j < L.length * 5 := by
    have := (List.getElem?_eq_some_iff.1 hu).1
    rw [tcells_len] at this
    exact this
  have hi : j / 5 < L.length := by omega
  obtain ⟨b2, o2, e, ht⟩ := h.at (j / 5) hi
  cases e
  have hj : j = j / 5 * 5 + j % 5 := by omega
  rw [hj, tcells_get L (j / 5) hi (j % 5) (by omega)] at hu
  rw [Addr.add_lit]
  have h5 : j % 5 = 0 ∨ j % 5 = 1 ∨ j % 5 = 2 ∨ j % 5 = 3 ∨ j % 5 = 4 := by omega
  rcases h5 with h5 | h5 | h5 | h5 | h5 <;> rw [h5] at hu <;> simp only [tcell, List.getElem?_cons_zero, List.getElem?_cons_succ, Option.some.injEq] at hu <;> subst hu
  · rw [show off + j = off + j / 5 * 5 by omega]; exact ht.kind
  · rw [show off + j = off + j / 5 * 5 + 1 by omega]; exact ht.text
  · rw [show off + j = off + j / 5 * 5 + 2 by omega]; exact ht.num
  · rw [show off + j = off + j / 5 * 5 + 3 by omega]; exact ht.place
  · rw [show off + j = off + j / 5 * 5 + 4 by omega]; exact ht.line
theorem tcells_ones (L : List Tok) : ∀ u ∈ tcells L, u.oneCell' = true := by
  intro u hu
  obtain ⟨t, _, ht⟩ := List.mem_flatMap.1 hu
  exact tcell_ones t u ht
theorem TR.take {w : World} {ao : Option Addr} {n cap : Nat} {L : List Tok} (h : TR w (.slice ao n cap) L) (m : Nat) (hm : m ≤ L.length) : TR w (.slice ao m cap) (L.take m) := by
  obtain ⟨ao', cap', e, h1, h2, h3, h4⟩ := h
  cases e
  have hl : (L.take m).length = m := by simp; omega
  refine ⟨ao, cap, by rw [hl], h1, by rw [hl]; omega, h3, fun i hi => ?_⟩
  rw [hl] at hi
  have := h4 i (by omega)
  simpa using this
section
variable {w : World} {o : Oper} {a : Act} {K : Act → World → Prop} {Q : Exit → Act → World → Prop}
theorem wp_make_tok (l c : Operand) (hop : o.op = Op.makeSlice 24 l c) (base n : Nat) (hl : a.eval l = .int .i64 0) (hc : a.eval c = .int .i64 ((n : Nat) : Int)) (hn : n ≤ 1000000) (hb : base ≤ w.heap.size)
    (h : ∀ w', TO w' base (.slice (some ⟨w.heap.size, 0, none⟩) 0 n) [] → w.grownBy w' none → K (a.put o.dst (.slice (some ⟨w.heap.size, 0, none⟩) 0 n)) w') : o.wp Try.prog a w K Q := by
  obtain ⟨i0, hi, hz0, hz1, hz2⟩ := info_parts3 infoT
  obtain ⟨w', hrun, r1, r2⟩ := run_make_own (P := Try.prog) w base 24 33 i0 _ 5 Try.underlying24 hi hz0 hz1 .i64 .i64 n (by rw [hz2]; omega) (by unfold maxLen; omega) hb
  unfold Oper.wp
  simp [execOp, hop, hl, hc, hrun, Result.andThen]
  exact h w' r1 r2
theorem wp_append_toks (s x : Operand) (ho : o.op = .call { callee := .builtin .append, args := #[s, x], argTypes := #[24, 24] }) (base : Nat) (v : Value) (L M : List Tok) (hs : a.eval s = v)
    (hown : TO w base v L) (ao : Option Addr) (c : Nat) (hx : a.eval x = .slice ao M.length c) (hrow : TR w (.slice ao M.length c) M) (hL : L.length + M.length ≤ 1000000) (hbase : base ≤ w.heap.size)
    (h : ∀ v' w', TO w' base v' (L ++ M) → w.grownBy w' v.ownBlock → K (a.put o.dst v') w') : o.wp Try.prog a w K Q := by
  obtain ⟨i0, hi, hz0, hz1, hz2⟩ := info_parts3 infoT
  cases ao with
  | none =>
    have hM : M = [] := by
      cases M with
      | nil => rfl
      | cons t r =>
        obtain ⟨b, off, e, _⟩ := hrow.at 0 (by simp)
        cases e
    subst hM
    obtain ⟨_, _, e, h0, _⟩ := hrow
    cases e
    have hc0 := h0 rfl
    subst hc0
    have hrun := run_append_owned_none (P := Try.prog) (w := w) base 24 o.type 33 i0 5 Try.underlying24 hi v _ _ hown
    unfold Oper.wp
    simp [execOp, ho, resolve, invoke, builtin, hs, hx, hrun, Result.andThen]
    exact h v w (by rw [List.append_nil]; exact hown) (World.grownBy.refl _ _)
  | some ad =>
    refine wp_append_own w s x 24 ho base 33 i0 _ 5 48 Try.underlying24 hi hz0 hz1 hz2 rfl (by decide) v L.length (tcells L) hs hown ad M.length c (tcells M) hx (tcells_len M) ?_ (tcells_ones M) (by unfold maxLen; omega) (by omega) hbase ?_
    · by_cases h0 : 0 < M.length
      · obtain ⟨b, off, e, _⟩ := hrow.at 0 h0
        cases e
        exact hrow.cells h0
      · have : M = [] := List.length_eq_zero_iff.1 (by omega)
        subst this
        intro j u hu
        simp [tcells] at hu
    · intro v' w' h1 h2 _
      rw [← tcells_append, ← List.length_append] at h1
      exact h v' w' h1 h2
theorem wp_build_tok (x : Operand) (ho : o.op = .buildSlice 24 1 #[(0, x)]) (hx : a.eval x = .agg #[.int .i64 77, .string ⟨#[]⟩, .int .i32 0, .int .i64 0, .int .i64 0]) (h : K (a.put o.dst (.slice (some ⟨w.heap.size, 0, none⟩) 1 1)) (w.alloc (.cells #[.int .i64 77, .string ⟨#[]⟩, .int .i32 0, .int .i64 0, .int .i64 0] 33))) : o.wp Try.prog a w K Q := by
  obtain ⟨i0, hi, hz0, hz1, hz2⟩ := info_parts3 infoT
  refine wp_buildSlice 24 33 1 _ ho _ i0 _ Try.underlying24 hi hz0 (by rw [hz1]; omega) (by rw [hz1]; omega) ?_ h
  rw [show (#[(0, x)] : Array (Nat × Operand)).map (fun (i, x) => (i, a.eval x)) = #[(0, .agg #[.int .i64 77, .string ⟨#[]⟩, .int .i32 0, .int .i64 0, .int .i64 0])] by simp [hx], hz1]
  kernel_rfl
end
theorem tcells_setText (A B : List Tok) (x : Tok) (t : Byts8) : (tcells (A ++ x :: B)).set (A.length * 5 + 1) (.string ⟨t.toArray⟩) = tcells (A ++ ⟨x.kind, t, x.num, x.place, x.line⟩ :: B) := by
  rw [tcells_append, tcells_append, List.set_append_right _ _ (by rw [tcells_len]; omega), tcells_len, Nat.add_sub_cancel_left]
  rfl
/-- A block beside the row that grows stays. -/
theorem litKeep {w w' : World} {g : Nat} {v : Value} {cs : Array Value} (h : Blk w g cs 33) (hd : ∀ g', v.ownBlock = some g' → g' ≠ g) (hg : w.grownBy w' v.ownBlock) : Blk w' g cs 33 := blkGrownO h hg (fun e => hd g e rfl)

set_option maxHeartbeats 4000000 in
set_option maxRecDepth 100000 in
theorem few_any (L : List Tok) (ao : Option Addr) (ca : Nat) (w : World) (hL : TR w (.slice ao L.length ca) L) :
    Calls Try.prog 14 #[.slice ao L.length ca] w fun e w' => ∃ am cm, e = .returned (.slice am (fewL L).length cm) ∧ (fewL L).length + 1 ≤ cm ∧ TO w' w.heap.size (.slice am ((fewL L).length + 1) cm) (fewL L ++ [t77]) ∧ Ext w w' := by
  have HL := hide hL
  have hbig : L.length ≤ ca ∧ ca ≤ 9223372036854775807 := by
    obtain ⟨_, _, e, _, h1, h2, _⟩ := hL
    cases e
    unfold maxLen at h2
    omega
  clear hL
  obtain ⟨n, hn⟩ : ∃ n, n = min L.length 2049 := ⟨_, rfl⟩
  have hmin : min L.length 2049 = n := hn.symm
  obtain ⟨M, hM⟩ : ∃ M, M = L.take n := ⟨_, rfl⟩
  have HLT : Hid (M.length = n) := by
    show M.length = n
    rw [hM, List.length_take]
    omega
  have HTK : Hid (∀ wx, Ext w wx → TR wx (.slice ao n ca) M) := fun wx hx => by
    rw [hM]
    exact ((unhide HL).ext hx).take n (by omega)
  have HFL : Hid (fewL L = M.map cutT) := by
    show fewL L = M.map cutT
    unfold fewL
    rw [hM]
    congr 1
    rw [hn]
    rcases Nat.le_total L.length 2049 with h | h
    · rw [Nat.min_eq_left h, List.take_length, List.take_of_length_le h]
    · rw [Nat.min_eq_right h]
  have hn9 : n ≤ L.length ∧ n ≤ 2049 := by omega
  clear hn hM
  go_enter Try.func14, Try.ntmps14
  go_wp2
  go_cut [4] (fun p wc => ∃ (am : Option Addr) (cm : Nat), p = .slice am n cm ∧ n + 1 ≤ cm ∧ TO wc w.heap.size (.slice am (n + 1) cm) (M ++ [t77]) ∧ Ext w wc)
  case first =>
    refine wp_region_noPanic ?_
    refine wp_region_held_drew (S := fun wx => Ext w wx) (by kernel_rfl) ((Ext.refl w).drew) (fun HS => ?_)
    refine wpAnyH_take (i := 0) (oi := { dst := some 9, op := Op.move (Operand.tmp 3), type := _, pos := _, after := _, guard := none }) (v := .int .i64 (n : Int)) rfl (by kernel_rfl) (by kernel_rfl) (by kernel_rfl) (fun _ _ _ h => h) (Or.inl ⟨by rfl, fun wx hx => by go_simp <;> omega⟩) HS ?_
    simp only [Act.put, List.setIfInBounds_toArray, List.set_cons_zero, List.set_cons_succ]
    refine wpAnyH_take (i := 1) (oi := { dst := some 10, op := Op.binOp BinOp.add 3 (Operand.tmp 9) (Operand.const (Value.int IntKind.i64 2)) 3, type := _, pos := _, after := _, guard := none }) (v := .int .i64 ((n : Int) + 2)) rfl (by kernel_rfl) (by kernel_rfl) (by kernel_rfl) (fun _ _ _ h => h) (Or.inl ⟨by rfl, fun wx hx => by go_simp; exact wrapId (by omega) (by omega)⟩) HS ?_
    simp only [Act.put, List.setIfInBounds_toArray, List.set_cons_zero, List.set_cons_succ]
    refine wpAnyH_take (i := 3) (oi := { dst := some 12, op := Op.move (Operand.tmp 0), type := _, pos := _, after := _, guard := none }) (v := .slice ao L.length ca) rfl (by kernel_rfl) (by kernel_rfl) (by kernel_rfl) (fun _ _ _ h => h) (Or.inl ⟨by rfl, fun wx hx => by go_simp⟩) HS ?_
    simp only [Act.put, List.setIfInBounds_toArray, List.set_cons_zero, List.set_cons_succ]
    refine wpAnyH_take (i := 4) (oi := { dst := some 13, op := Op.move (Operand.tmp 3), type := _, pos := _, after := _, guard := none }) (v := .int .i64 (n : Int)) rfl (by kernel_rfl) (by kernel_rfl) (by kernel_rfl) (fun _ _ _ h => h) (Or.inl ⟨by rfl, fun wx hx => by go_simp <;> omega⟩) HS ?_
    simp only [Act.put, List.setIfInBounds_toArray, List.set_cons_zero, List.set_cons_succ]
    refine wpAnyH_take (i := 5) (oi := { dst := some 14, op := Op.slice 24 (Operand.tmp 12) none (some (Operand.tmp 13)) none, type := _, pos := _, after := _, guard := none }) (v := .slice ao n ca) rfl (by kernel_rfl) (by kernel_rfl) (by kernel_rfl) (fun _ _ _ h => h) (Or.inl ⟨by rfl, fun wx hx => by go_simp <;> omega⟩) HS ?_
    simp only [Act.put, List.setIfInBounds_toArray, List.set_cons_zero, List.set_cons_succ]
    refine wpAnyH_take (i := 7) (oi := { dst := some 16, op := Op.build 33 #[(0, Operand.const (Value.int IntKind.i64 77))], type := _, pos := _, after := _, guard := none }) (v := .agg #[.int .i64 77, .string ⟨#[]⟩, .int .i32 0, .int .i64 0, .int .i64 0]) rfl (by kernel_rfl) (by kernel_rfl) (by kernel_rfl) (fun _ _ _ h => h) (Or.inl ⟨by rfl, fun wx hx => by go_simp⟩) HS ?_
    simp only [Act.put, List.setIfInBounds_toArray, List.set_cons_zero, List.set_cons_succ]
    refine wpAnyH_take (i := 10) (oi := { dst := some 19, op := Op.move (Operand.tmp 3), type := _, pos := _, after := _, guard := none }) (v := .int .i64 (n : Int)) rfl (by kernel_rfl) (by kernel_rfl) (by kernel_rfl) (fun _ _ _ h => h) (Or.inl ⟨by rfl, fun wx hx => by go_simp <;> omega⟩) HS ?_
    simp only [Act.put, List.setIfInBounds_toArray, List.set_cons_zero, List.set_cons_succ]
    have HW0 := hide (Ext.refl w)
    generalize w.drew = wa at HS ⊢
    refine wpAnyH_ready (rs := [2, 8]) (by kernel_rfl) (by simp) (AllReadyH.cons (o := { dst := some 11, op := Op.makeSlice 24 (Operand.const (Value.int IntKind.i64 0)) (Operand.tmp 10), type := _, pos := _, after := _, guard := none }) rfl (fun KK hK => ?_) (AllReadyH.cons (o := { dst := some 17, op := Op.buildSlice 24 1 #[(0, Operand.tmp 16)], type := _, pos := _, after := _, guard := none }) rfl (fun KK hK => ?_) AllReadyH.nil))
    · refine wp_make_tok (Operand.const (Value.int IntKind.i64 0)) (Operand.tmp 10) rfl (w.heap.size + 0) (n + 2) rfl rfl (by omega) (Nat.le_trans HS.size (Nat.le_refl _)) ?_
      intro w1 hm hg
      have hxx : Ext wa w1 := grown_below hg (Nat.le_refl _) (fun g hg2 => by cases hg2)
      have HM := hide hm
      have HS2 := HS.trans hxx
      clear hm hg hxx HS
      have HS := HS2
      clear HS2
      refine hK.out _ _ HS (fun _ => ?_)
      clear hK KK
      try simp only [Act.put, List.setIfInBounds_toArray, List.set_cons_zero, List.set_cons_succ]
      refine wpAnyH_ready (rs := [6, 8]) (by kernel_rfl) (by simp) (AllReadyH.cons (o := { dst := some 15, op := Op.call { callee := Callee.builtin Builtin.append, args := #[Operand.tmp 11, Operand.tmp 14], argTypes := #[24, 24] }, type := _, pos := _, after := _, guard := none }) rfl (fun KK hK => ?_) (AllReadyH.cons (o := { dst := some 17, op := Op.buildSlice 24 1 #[(0, Operand.tmp 16)], type := _, pos := _, after := _, guard := none }) rfl (fun KK hK => ?_) AllReadyH.nil))
      · refine wp_append_toks (Operand.tmp 11) (Operand.tmp 14) rfl (w.heap.size + 0) _ [] M rfl (unhide HM) ao ca (by rw [unhide HLT]; rfl) (by rw [unhide HLT]; exact unhide HTK _ HS) (by rw [unhide HLT]; simp; omega) (Nat.le_trans HS.size (Nat.le_refl _)) ?_
        intro v6 w2 hm2 hg
        rw [List.nil_append] at hm2
        have hxx : Ext w w2 := Below.trans HS (grown_below hg HS.size (fun g hg2 => (World.ownsRow.lt (unhide HM) g hg2).1))
        clear HM
        obtain ⟨am6, cm6, e6, _⟩ := hm2.shape
        rw [unhide HLT] at e6
        subst e6
        have HM := hide hm2
        clear hm2 hg HS
        have HS := hxx
        clear hxx
        refine hK.out _ _ HS (fun _ => ?_)
        clear hK KK
        try simp only [Act.put, List.setIfInBounds_toArray, List.set_cons_zero, List.set_cons_succ]
        refine wpAnyH_ready (rs := [8]) (by kernel_rfl) (by simp) (AllReadyH.cons (o := { dst := some 17, op := Op.buildSlice 24 1 #[(0, Operand.tmp 16)], type := _, pos := _, after := _, guard := none }) rfl (fun KK hK => ?_) AllReadyH.nil)
        refine wp_build_tok (Operand.tmp 16) rfl rfl ?_
        have HG := hide (Blk.new w2 #[.int .i64 77, .string ⟨#[]⟩, .int .i32 0, .int .i64 0, .int .i64 0] 33)
        have HD0 : Hid (∀ g, (Value.slice am6 n cm6).ownBlock = some g → g < w2.heap.size) := fun g hg2 => (World.ownsRow.lt (unhide HM) g hg2).2
        have HM2 := hide ((unhide HM).ext ((Ext.refl w2).alloc (.cells #[.int .i64 77, .string ⟨#[]⟩, .int .i32 0, .int .i64 0, .int .i64 0] 33)))
        clear HM
        have HM := HM2
        clear HM2
        have HS2 := HS.alloc (.cells #[.int .i64 77, .string ⟨#[]⟩, .int .i32 0, .int .i64 0, .int .i64 0] 33)
        clear HS
        have HS := HS2
        clear HS2
        refine hK.out _ _ HS (fun _ => ?_)
        clear hK KK
        try simp only [Act.put, List.setIfInBounds_toArray, List.set_cons_zero, List.set_cons_succ]
        obtain ⟨g7, hg7⟩ : ∃ g, g = w2.heap.size := ⟨_, rfl⟩
        rw [← hg7] at HG ⊢
        have HD : Hid (∀ g, (Value.slice am6 n cm6).ownBlock = some g → g ≠ g7) := fun g hg2 => by
          have := unhide HD0 g hg2
          omega
        clear HD0
        clear hg7
        generalize w2.alloc (.cells #[.int .i64 77, .string ⟨#[]⟩, .int .i32 0, .int .i64 0, .int .i64 0] 33) = w3 at HG HS HM ⊢
        refine wpAnyH_ready (rs := [9]) (by kernel_rfl) (by simp) (AllReadyH.cons (o := { dst := some 18, op := Op.call { callee := Callee.builtin Builtin.append, args := #[Operand.tmp 15, Operand.tmp 17], argTypes := #[24, 24] }, type := _, pos := _, after := _, guard := none }) rfl (fun KK hK => ?_) AllReadyH.nil)
        refine wp_append_toks (Operand.tmp 15) (Operand.tmp 17) rfl (w.heap.size + 0) _ M [t77] rfl (unhide HM) _ _ rfl (TR.lit (unhide HG)) (by rw [unhide HLT]; simp; omega) (Nat.le_trans HS.size (Nat.le_refl _)) ?_
        intro v9 w4 hm2 hg
        have hxx : Ext w w4 := Below.trans HS (grown_below hg HS.size (fun g hg2 => (World.ownsRow.lt (unhide HM) g hg2).1))
        clear HM
        have hl9 : (M ++ [t77]).length = n + 1 := by rw [List.length_append, unhide HLT]; rfl
        obtain ⟨am9, cm9, e9, hn9, hc9, hm9⟩ := hm2.shape
        rw [hl9] at e9 hc9
        subst e9
        have HM := hide hm2
        clear hm2 hg HS
        have HS := hxx
        clear hxx
        refine hK.out _ _ HS (fun _ => ?_)
        clear hK KK
        try simp only [Act.put, List.setIfInBounds_toArray, List.set_cons_zero, List.set_cons_succ]
        refine wpAnyH_take (i := 11) (oi := { dst := some 20, op := Op.slice 24 (Operand.tmp 18) none (some (Operand.tmp 19)) none, type := _, pos := _, after := _, guard := none }) (v := .slice am9 n cm9) rfl (by kernel_rfl) (by kernel_rfl) (by kernel_rfl) (fun _ _ _ h => h) (Or.inl ⟨by rfl, fun wx hx => by go_simp <;> omega⟩) HS ?_
        simp only [Act.put, List.setIfInBounds_toArray, List.set_cons_zero, List.set_cons_succ]
        refine wpAnyH_take (i := 12) (oi := { dst := some 4, op := Op.assign (Operand.tmp 20), type := _, pos := _, after := _, guard := none }) (v := .slice am9 n cm9) rfl (by kernel_rfl) (by kernel_rfl) (by kernel_rfl) (fun _ _ _ h => h) (Or.inl ⟨by rfl, fun wx hx => by go_simp⟩) HS ?_
        simp only [Act.put, List.setIfInBounds_toArray, List.set_cons_zero, List.set_cons_succ]
        refine wpAnyH_done (by kernel_rfl) ?_ _
        refine NoPanic.normal ?_
        go_wp2
        go_meet
        exact ⟨am9, cm9, rfl, hc9, unhide HM, HS⟩
      · refine wp_build_tok (Operand.tmp 16) rfl rfl ?_
        have HG := hide (Blk.new w1 #[.int .i64 77, .string ⟨#[]⟩, .int .i32 0, .int .i64 0, .int .i64 0] 33)
        have HD0 : Hid (∀ g, (Value.slice (some ⟨wa.heap.size, 0, none⟩) 0 (n + 2)).ownBlock = some g → g < w1.heap.size) := fun g hg2 => (World.ownsRow.lt (unhide HM) g hg2).2
        have HM2 := hide ((unhide HM).ext ((Ext.refl w1).alloc (.cells #[.int .i64 77, .string ⟨#[]⟩, .int .i32 0, .int .i64 0, .int .i64 0] 33)))
        clear HM
        have HM := HM2
        clear HM2
        have HS2 := HS.alloc (.cells #[.int .i64 77, .string ⟨#[]⟩, .int .i32 0, .int .i64 0, .int .i64 0] 33)
        clear HS
        have HS := HS2
        clear HS2
        refine hK.out _ _ HS (fun _ => ?_)
        clear hK KK
        try simp only [Act.put, List.setIfInBounds_toArray, List.set_cons_zero, List.set_cons_succ]
        obtain ⟨g7, hg7⟩ : ∃ g, g = w1.heap.size := ⟨_, rfl⟩
        rw [← hg7] at HG ⊢
        have HD : Hid (∀ g, (Value.slice (some ⟨wa.heap.size, 0, none⟩) 0 (n + 2)).ownBlock = some g → g ≠ g7) := fun g hg2 => by
          have := unhide HD0 g hg2
          omega
        clear HD0
        clear hg7
        generalize w1.alloc (.cells #[.int .i64 77, .string ⟨#[]⟩, .int .i32 0, .int .i64 0, .int .i64 0] 33) = w2 at HG HS HM ⊢
        refine wpAnyH_ready (rs := [6]) (by kernel_rfl) (by simp) (AllReadyH.cons (o := { dst := some 15, op := Op.call { callee := Callee.builtin Builtin.append, args := #[Operand.tmp 11, Operand.tmp 14], argTypes := #[24, 24] }, type := _, pos := _, after := _, guard := none }) rfl (fun KK hK => ?_) AllReadyH.nil)
        refine wp_append_toks (Operand.tmp 11) (Operand.tmp 14) rfl (w.heap.size + 0) _ [] M rfl (unhide HM) ao ca (by rw [unhide HLT]; rfl) (by rw [unhide HLT]; exact unhide HTK _ HS) (by rw [unhide HLT]; simp; omega) (Nat.le_trans HS.size (Nat.le_refl _)) ?_
        intro v6 w3 hm2 hg
        rw [List.nil_append] at hm2
        have hxx : Ext w w3 := Below.trans HS (grown_below hg HS.size (fun g hg2 => (World.ownsRow.lt (unhide HM) g hg2).1))
        have HG2 := hide (litKeep (unhide HG) (unhide HD) hg)
        clear HG
        have HG := HG2
        clear HG2
        clear HM
        obtain ⟨am6, cm6, e6, _⟩ := hm2.shape
        rw [unhide HLT] at e6
        subst e6
        have HM := hide hm2
        clear hm2 hg HS
        have HS := hxx
        clear hxx
        refine hK.out _ _ HS (fun _ => ?_)
        clear hK KK
        try simp only [Act.put, List.setIfInBounds_toArray, List.set_cons_zero, List.set_cons_succ]
        refine wpAnyH_ready (rs := [9]) (by kernel_rfl) (by simp) (AllReadyH.cons (o := { dst := some 18, op := Op.call { callee := Callee.builtin Builtin.append, args := #[Operand.tmp 15, Operand.tmp 17], argTypes := #[24, 24] }, type := _, pos := _, after := _, guard := none }) rfl (fun KK hK => ?_) AllReadyH.nil)
        refine wp_append_toks (Operand.tmp 15) (Operand.tmp 17) rfl (w.heap.size + 0) _ M [t77] rfl (unhide HM) _ _ rfl (TR.lit (unhide HG)) (by rw [unhide HLT]; simp; omega) (Nat.le_trans HS.size (Nat.le_refl _)) ?_
        intro v9 w4 hm2 hg
        have hxx : Ext w w4 := Below.trans HS (grown_below hg HS.size (fun g hg2 => (World.ownsRow.lt (unhide HM) g hg2).1))
        clear HM
        have hl9 : (M ++ [t77]).length = n + 1 := by rw [List.length_append, unhide HLT]; rfl
        obtain ⟨am9, cm9, e9, hn9, hc9, hm9⟩ := hm2.shape
        rw [hl9] at e9 hc9
        subst e9
        have HM := hide hm2
        clear hm2 hg HS
        have HS := hxx
        clear hxx
        refine hK.out _ _ HS (fun _ => ?_)
        clear hK KK
        try simp only [Act.put, List.setIfInBounds_toArray, List.set_cons_zero, List.set_cons_succ]
        refine wpAnyH_take (i := 11) (oi := { dst := some 20, op := Op.slice 24 (Operand.tmp 18) none (some (Operand.tmp 19)) none, type := _, pos := _, after := _, guard := none }) (v := .slice am9 n cm9) rfl (by kernel_rfl) (by kernel_rfl) (by kernel_rfl) (fun _ _ _ h => h) (Or.inl ⟨by rfl, fun wx hx => by go_simp <;> omega⟩) HS ?_
        simp only [Act.put, List.setIfInBounds_toArray, List.set_cons_zero, List.set_cons_succ]
        refine wpAnyH_take (i := 12) (oi := { dst := some 4, op := Op.assign (Operand.tmp 20), type := _, pos := _, after := _, guard := none }) (v := .slice am9 n cm9) rfl (by kernel_rfl) (by kernel_rfl) (by kernel_rfl) (fun _ _ _ h => h) (Or.inl ⟨by rfl, fun wx hx => by go_simp⟩) HS ?_
        simp only [Act.put, List.setIfInBounds_toArray, List.set_cons_zero, List.set_cons_succ]
        refine wpAnyH_done (by kernel_rfl) ?_ _
        refine NoPanic.normal ?_
        go_wp2
        go_meet
        exact ⟨am9, cm9, rfl, hc9, unhide HM, HS⟩
    · refine wp_build_tok (Operand.tmp 16) rfl rfl ?_
      have HG := hide (Blk.new wa #[.int .i64 77, .string ⟨#[]⟩, .int .i32 0, .int .i64 0, .int .i64 0] 33)
      have HS2 := HS.alloc (.cells #[.int .i64 77, .string ⟨#[]⟩, .int .i32 0, .int .i64 0, .int .i64 0] 33)
      clear HS
      have HS := HS2
      clear HS2
      refine hK.out _ _ HS (fun _ => ?_)
      clear hK KK
      try simp only [Act.put, List.setIfInBounds_toArray, List.set_cons_zero, List.set_cons_succ]
      obtain ⟨g7, hg7⟩ : ∃ g, g = wa.heap.size := ⟨_, rfl⟩
      rw [← hg7] at HG ⊢
      clear hg7
      generalize wa.alloc (.cells #[.int .i64 77, .string ⟨#[]⟩, .int .i32 0, .int .i64 0, .int .i64 0] 33) = w1 at HG HS ⊢
      refine wpAnyH_ready (rs := [2]) (by kernel_rfl) (by simp) (AllReadyH.cons (o := { dst := some 11, op := Op.makeSlice 24 (Operand.const (Value.int IntKind.i64 0)) (Operand.tmp 10), type := _, pos := _, after := _, guard := none }) rfl (fun KK hK => ?_) AllReadyH.nil)
      refine wp_make_tok (Operand.const (Value.int IntKind.i64 0)) (Operand.tmp 10) rfl (w.heap.size + 0) (n + 2) rfl rfl (by omega) (Nat.le_trans HS.size (Nat.le_refl _)) ?_
      intro w2 hm hg
      have hxx : Ext w1 w2 := grown_below hg (Nat.le_refl _) (fun g hg2 => by cases hg2)
      have HM := hide hm
      have HD : Hid (∀ g, (Value.slice (some ⟨w1.heap.size, 0, none⟩) 0 (n + 2)).ownBlock = some g → g ≠ g7) := fun g hg2 => by
        have h7 := (unhide HG).lt
        simp only [Value.ownBlock, Option.some.injEq] at hg2
        omega
      have HG2 := hide ((unhide HG).ext hxx)
      clear HG
      have HG := HG2
      clear HG2
      have HS2 := HS.trans hxx
      clear hm hg hxx HS
      have HS := HS2
      clear HS2
      refine hK.out _ _ HS (fun _ => ?_)
      clear hK KK
      try simp only [Act.put, List.setIfInBounds_toArray, List.set_cons_zero, List.set_cons_succ]
      refine wpAnyH_ready (rs := [6]) (by kernel_rfl) (by simp) (AllReadyH.cons (o := { dst := some 15, op := Op.call { callee := Callee.builtin Builtin.append, args := #[Operand.tmp 11, Operand.tmp 14], argTypes := #[24, 24] }, type := _, pos := _, after := _, guard := none }) rfl (fun KK hK => ?_) AllReadyH.nil)
      refine wp_append_toks (Operand.tmp 11) (Operand.tmp 14) rfl (w.heap.size + 0) _ [] M rfl (unhide HM) ao ca (by rw [unhide HLT]; rfl) (by rw [unhide HLT]; exact unhide HTK _ HS) (by rw [unhide HLT]; simp; omega) (Nat.le_trans HS.size (Nat.le_refl _)) ?_
      intro v6 w3 hm2 hg
      rw [List.nil_append] at hm2
      have hxx : Ext w w3 := Below.trans HS (grown_below hg HS.size (fun g hg2 => (World.ownsRow.lt (unhide HM) g hg2).1))
      have HG2 := hide (litKeep (unhide HG) (unhide HD) hg)
      clear HG
      have HG := HG2
      clear HG2
      clear HM
      obtain ⟨am6, cm6, e6, _⟩ := hm2.shape
      rw [unhide HLT] at e6
      subst e6
      have HM := hide hm2
      clear hm2 hg HS
      have HS := hxx
      clear hxx
      refine hK.out _ _ HS (fun _ => ?_)
      clear hK KK
      try simp only [Act.put, List.setIfInBounds_toArray, List.set_cons_zero, List.set_cons_succ]
      refine wpAnyH_ready (rs := [9]) (by kernel_rfl) (by simp) (AllReadyH.cons (o := { dst := some 18, op := Op.call { callee := Callee.builtin Builtin.append, args := #[Operand.tmp 15, Operand.tmp 17], argTypes := #[24, 24] }, type := _, pos := _, after := _, guard := none }) rfl (fun KK hK => ?_) AllReadyH.nil)
      refine wp_append_toks (Operand.tmp 15) (Operand.tmp 17) rfl (w.heap.size + 0) _ M [t77] rfl (unhide HM) _ _ rfl (TR.lit (unhide HG)) (by rw [unhide HLT]; simp; omega) (Nat.le_trans HS.size (Nat.le_refl _)) ?_
      intro v9 w4 hm2 hg
      have hxx : Ext w w4 := Below.trans HS (grown_below hg HS.size (fun g hg2 => (World.ownsRow.lt (unhide HM) g hg2).1))
      clear HM
      have hl9 : (M ++ [t77]).length = n + 1 := by rw [List.length_append, unhide HLT]; rfl
      obtain ⟨am9, cm9, e9, hn9, hc9, hm9⟩ := hm2.shape
      rw [hl9] at e9 hc9
      subst e9
      have HM := hide hm2
      clear hm2 hg HS
      have HS := hxx
      clear hxx
      refine hK.out _ _ HS (fun _ => ?_)
      clear hK KK
      try simp only [Act.put, List.setIfInBounds_toArray, List.set_cons_zero, List.set_cons_succ]
      refine wpAnyH_take (i := 11) (oi := { dst := some 20, op := Op.slice 24 (Operand.tmp 18) none (some (Operand.tmp 19)) none, type := _, pos := _, after := _, guard := none }) (v := .slice am9 n cm9) rfl (by kernel_rfl) (by kernel_rfl) (by kernel_rfl) (fun _ _ _ h => h) (Or.inl ⟨by rfl, fun wx hx => by go_simp <;> omega⟩) HS ?_
      simp only [Act.put, List.setIfInBounds_toArray, List.set_cons_zero, List.set_cons_succ]
      refine wpAnyH_take (i := 12) (oi := { dst := some 4, op := Op.assign (Operand.tmp 20), type := _, pos := _, after := _, guard := none }) (v := .slice am9 n cm9) rfl (by kernel_rfl) (by kernel_rfl) (by kernel_rfl) (fun _ _ _ h => h) (Or.inl ⟨by rfl, fun wx hx => by go_simp⟩) HS ?_
      simp only [Act.put, List.setIfInBounds_toArray, List.set_cons_zero, List.set_cons_succ]
      refine wpAnyH_done (by kernel_rfl) ?_ _
      refine NoPanic.normal ?_
      go_wp2
      go_meet
      exact ⟨am9, cm9, rfl, hc9, unhide HM, HS⟩
  case rest =>
    obtain ⟨am, cm, rfl, hcm, hO, hx⟩ := hcut
    have hl1 : (M ++ [t77]).length = n + 1 := by rw [List.length_append, unhide HLT]; rfl
    obtain ⟨g, hg⟩ : ∃ g, am = some ⟨g, 0, none⟩ := by
      rcases hO.2 with ⟨e, h0⟩ | ⟨g, c, cur, e, _⟩
      · rw [hl1] at h0; omega
      · simp only [Value.slice.injEq] at e; exact ⟨g, e.1⟩
    subst hg
    have HO := hide hO
    have X := hide hx
    clear hO hx hl1
    go_wp2
    go_loopw [23] (fun iv wr => ∃ k : Nat, k ≤ n ∧ iv = .int .i64 k ∧ TO wr w.heap.size (.slice (some ⟨g, 0, none⟩) (n + 1) cm) (((M.take k).map cutT ++ M.drop k) ++ [t77]) ∧ Ext w wr) (fun iv _ => n - (intOf iv).toNat)
    case atStart => exact ⟨0, by omega, rfl, by simpa using unhide HO, unhide X⟩
    case round =>
      obtain ⟨k, hk, rfl, hOk, hxk⟩ := hrel
      have HOk := hide hOk
      have Xk := hide hxk
      clear hOk hxk HO X
      by_cases hlt : k < n
      · have hkM : k < M.length := by rw [unhide HLT]; exact hlt
        have hsplit : (M.take k).map cutT ++ M.drop k ++ [t77] = (M.take k).map cutT ++ M[k] :: (M.drop (k + 1) ++ [t77]) := by
          rw [List.drop_eq_getElem_cons hkM, List.append_assoc]
          rfl
        have hAl : ((M.take k).map cutT).length = k := by rw [List.length_map, List.length_take]; omega
        have hTR := (unhide HOk).tr
        rw [hsplit] at hTR
        obtain ⟨b2, o2, e2, ht⟩ := hTR.at k (by rw [List.length_append, hAl, List.length_cons]; omega)
        cases e2
        have hget : ((M.take k).map cutT ++ M[k] :: (M.drop (k + 1) ++ [t77]))[k]'(by rw [List.length_append, hAl, List.length_cons]; omega) = M[k] := by
          have hq : ((M.take k).map cutT ++ M[k] :: (M.drop (k + 1) ++ [t77]))[k]? = some M[k] := by
            rw [List.getElem?_append_right (by omega), hAl, Nat.sub_self]
            rfl
          exact Option.some.inj ((List.getElem?_eq_getElem _).symm.trans hq)
        rw [hget] at ht
        have c1 := ht.text
        rw [Nat.zero_add] at c1
        have hlen : ((M.take k).map cutT ++ M.drop k ++ [t77]).length = n + 1 := by
          rw [List.length_append, List.length_append, hAl, List.length_drop, unhide HLT]
          simp
          omega
        have hown : wr.ownsRow w.heap.size 33 5 (.slice (some ⟨g, 0, none⟩) (n + 1) cm) (n + 1) (tcells ((M.take k).map cutT ++ M.drop k ++ [t77])) := by
          have h := unhide HOk
          unfold TO at h
          rw [hlen] at h
          exact h
        have fz := World.ownsRow.frozenAt hown (k * 5 + 1)
        have hst := (World.ownsRow.stored hown (k * 5 + 1) (.string ⟨(M[k].text.take 100).toArray⟩)).1
        rw [hsplit, show k * 5 + 1 = ((M.take k).map cutT).length * 5 + 1 by rw [hAl], tcells_setText] at hst
        have hnew : (M.take k).map cutT ++ (⟨M[k].kind, M[k].text.take 100, M[k].num, M[k].place, M[k].line⟩ : Tok) :: (M.drop (k + 1) ++ [t77]) = (M.take (k + 1)).map cutT ++ M.drop (k + 1) ++ [t77] := by
          rw [List.take_succ_eq_append_getElem hkM, List.map_append]
          simp [cutT]
        rw [hnew, hAl] at hst
        have hlen2 : ((M.take (k + 1)).map cutT ++ M.drop (k + 1) ++ [t77]).length = n + 1 := by
          rw [List.length_append, List.length_append, List.length_map, List.length_take, List.length_drop, unhide HLT]
          simp
          omega
        have HST : Hid (TO (wr.setCell ⟨g, k * 5 + 1, none⟩ (.string ⟨(M[k].text.take 100).toArray⟩)) w.heap.size (.slice (some ⟨g, 0, none⟩) (n + 1) cm) ((M.take (k + 1)).map cutT ++ M.drop (k + 1) ++ [t77])) := by
          show TO _ _ _ _
          unfold TO
          rw [hlen2]
          exact hst
        have hgb : w.heap.size ≤ g := (World.ownsRow.lt (unhide HOk) g rfl).1
        clear ht hTR hget hst hnew hlen hlen2 hown hsplit hAl
        have ht1 : (⟨M[k].text.toArray⟩ : ByteArray).size = M[k].text.length := by simp [ByteArray.size]
        have hcut : (⟨M[k].text.toArray⟩ : ByteArray).extract 0 (min M[k].text.length 100) = ⟨(M[k].text.take 100).toArray⟩ := by
          apply ByteArray.ext
          apply Array.ext'
          rw [Lib.extract_data]
          simp
          omega
        generalize M[k].text = tx at *
        have HCUT := hide hcut
        clear hcut
        go_wp2
        have m1 : (min (tx.length : Int) 100).toNat = min tx.length 100 := by omega
        have hcut := unhide HCUT
        go_region
        clear hcut HCUT
        go_wp2
        refine ⟨⟨k + 1, by omega, rfl, (unhide HST).ext ((Ext.refl _).drew), (extSet (unhide Xk) hgb).drew⟩, ?_⟩
        simp [intOf]
        omega
      · have hke : k = n := by omega
        have hfin : TO wr w.heap.size (.slice (some ⟨g, 0, none⟩) ((fewL L).length + 1) cm) (fewL L ++ [t77]) ∧ (fewL L).length = n := by
          have h := unhide HOk
          have hl : (fewL L).length = n := by rw [unhide HFL, List.length_map, unhide HLT]
          have e1 : (M.take k).map cutT ++ M.drop k = fewL L := by
            rw [unhide HFL, hke, List.take_of_length_le (by rw [unhide HLT]; omega), List.drop_of_length_le (by rw [unhide HLT]; omega), List.append_nil]
          rw [e1] at h
          rw [hl]
          exact ⟨h, rfl⟩
        have HF := hide hfin
        clear hfin
        go_wp2
        go_ret
        refine ⟨some ⟨g, 0, none⟩, cm, by rw [(unhide HF).2]; rfl, by rw [(unhide HF).2]; exact hcm, (unhide HF).1, unhide Xk⟩

end Go.Proofs.Ytgoldmohmjjngaa
