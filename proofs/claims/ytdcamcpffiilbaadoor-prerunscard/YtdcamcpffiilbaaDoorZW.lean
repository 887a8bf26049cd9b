/-
  Tokens line by line: Lines.
-/
import Derived.Test.YtdcamcpffiilbaaDoorZL
namespace Go.Proofs.YtdcamcpffiilbaaDoor
open Go.RowKit
set_option linter.unusedVariables false
set_option linter.unusedSimpArgs false

/-- 'append(rows, nil)', the block of nil laid last. -/
theorem wpList_append_row {w : World} {ops : Array Oper} {rest : List Oper} {o : Oper} {a : Act} {Q : Exit → Act → World → Prop} (hgd : o.guard = none) (s x : Operand)
    (ho : o.op = .call { callee := .builtin .append, args := #[s, x], argTypes := #[58, 58] }) (base : Nat) (v : Value) (n : Nat) (xs : List Value) (hs : a.eval s = v)
    (hown : w.ownsRow base 23 1 v n xs) (g c : Nat) (hx : a.eval x = .slice (some ⟨g, 0, none⟩) 1 c) (t : TypeId) (hB : Blk w g #[.slice none 0 0] t)
    (hL : n ≤ 2932031007402) (hbase : base ≤ w.heap.size)
    (h : ∀ g' cap w', w'.ownsRow base 23 1 (.slice (some ⟨g', 0, none⟩) (n + 1) cap) (n + 1) (xs ++ [.slice none 0 0]) → w.grownBy w' v.ownBlock → (v.ownBlock = some g' ∨ w.heap.size ≤ g') → wpList Tryd.prog ops Q rest (a.put o.dst (.slice (some ⟨g', 0, none⟩) (n + 1) cap)) w') :
    wpList Tryd.prog ops Q (o :: rest) a w := by
  obtain ⟨i0, hi, hz0, hz1, hz2⟩ := info_parts3 infoR
  refine wpList_append_own_at w hgd s x 58 ho base 23 i0 _ 1 24 Tryd.underlying58 hi hz0 hz1 hz2 rfl (by decide) v n xs hs hown ⟨g, 0, none⟩ 1 c [.slice none 0 0] hx rfl ?_ ?_ (by unfold maxLen; omega) (by omega) hbase ?_
  · intro j u hu
    rw [Addr.add_lit, Nat.zero_add]
    exact hB.cell (by simpa using hu)
  · intro u hu
    simp at hu
    subst hu
    rfl
  · intro v' w' h1 h2 _ h4
    have hsh : ∃ g' cap, v' = .slice (some ⟨g', 0, none⟩) (n + 1) cap := by
      rcases h1.2 with ⟨_, h0⟩ | ⟨g2, c2, cur, e, _⟩
      · omega
      · exact ⟨_, _, e⟩
    obtain ⟨g', cap, rfl⟩ := hsh
    refine h g' cap w' h1 h2 ?_
    rcases h4 with h4 | h4
    · exact .inl h4.symm
    · cases h4
      exact .inr (Nat.le_refl _)

set_option maxHeartbeats 4000000 in
set_option maxRecDepth 100000 in
theorem lines_any (X : List Tok) (ao : Option Addr) (ca : Nat) (w : World) (hX : TR w (.slice ao X.length ca) X) (hlen : X.length ≤ 2932031007402) :
    Calls Tryd.prog 20 #[.slice ao X.length ca] w fun e w' => ∃ ro rc P, e = .returned (.slice ro P.length rc) ∧ LR w' w.heap.size (.slice ro P.length rc) P ∧ P.map (·.2) = linesP X ∧ Ext w w' := by
  have HX := hide hX
  clear hX
  go_enter Tryd.func20, Tryd.ntmps20
  go_wp2
  go_loopw [3, 9] (fun ov iv wr => ∃ k : Nat, k ≤ X.length ∧ iv = .int .i64 (k : Int) ∧ Ext w wr ∧ ((k = 0 ∧ ov = .slice none 0 0) ∨ (0 < k ∧ ∃ (ro : Option Addr) (rc : Nat) (A : List (Value × List Tok)) (v : Value) (L : List Tok), ov = .slice ro (A.length + 1) rc ∧ LI wr w.heap.size ro rc A v L ∧ linesP (X.take k) = A.map (·.2) ++ [L] ∧ A.length + 1 + L.length ≤ k + 1))) (fun _ iv _ => X.length - (intOf iv).toNat)
  case atStart => exact ⟨0, by omega, rfl, Ext.refl _, .inl ⟨rfl, rfl⟩⟩
  case round =>
    obtain ⟨k, hk, rfl, hx, hst⟩ := hrel
    have X0 := hide hx
    clear hx
    by_cases hlt : k < X.length
    · obtain ⟨b1, o1, rfl, h1⟩ := ((unhide HX).ext (unhide X0)).at k hlt
      have c0 := h1.kind; have c1 := h1.text; have c2 := h1.num; have c3 := h1.place; have c4 := h1.line
      clear h1
      obtain ⟨t, ht⟩ : ∃ t, t = X[k] := ⟨_, rfl⟩
      rw [← ht] at c0 c1 c2 c3 c4
      have HTK : Hid (X.take (k + 1) = X.take k ++ [t]) := by
        show X.take (k + 1) = X.take k ++ [t]
        rw [ht]
        exact List.take_succ_eq_append_getElem hlt
      obtain ⟨wA, hwA⟩ : ∃ wA, wA = wr.alloc (.cells #[.int .i64 t.kind, .string ⟨t.text.toArray⟩, .int .i32 t.num, .int .i64 t.place, .int .i64 t.line] 33) := ⟨_, rfl⟩
      have XA : Hid (Ext w wA) := by rw [hwA]; exact (unhide X0).alloc _
      obtain ⟨tb, htb⟩ : ∃ tb, tb = wr.heap.size := ⟨_, rfl⟩
      have HTA : Hid (Blk wA tb #[.int .i64 t.kind, .string ⟨t.text.toArray⟩, .int .i32 t.num, .int .i64 t.place, .int .i64 t.line] 33) := by rw [hwA, htb]; exact Blk.new _ _ _
      have htbs : tb < wA.heap.size := (unhide HTA).lt
      have htbw : w.heap.size ≤ tb := by rw [htb]; exact (unhide X0).size
      rcases hst with ⟨hk0, rfl⟩ | ⟨hk0, ro, rc, A, v, L, rfl, hI, hln, hkl⟩
      · subst hk0
        simp only [Nat.zero_mul, Nat.add_zero] at c0 c1 c2 c3 c4
        obtain ⟨A, hA⟩ : ∃ A : List (Value × List Tok), A = [] := ⟨_, rfl⟩
        obtain ⟨v, hv⟩ : ∃ v : Value, v = .slice none 0 0 := ⟨_, rfl⟩
        obtain ⟨L, hL⟩ : ∃ L : List Tok, L = [] := ⟨_, rfl⟩
        obtain ⟨k, hkk⟩ : ∃ k : Nat, k = 0 := ⟨_, rfl⟩
        have HLN : Hid (linesP (X.take (k + 1)) = A.map (·.2) ++ [L ++ [t]]) := by
          show linesP (X.take (k + 1)) = _
          rw [hkk, unhide HTK, hA, hL]
          rfl
        have hlt : k < X.length := by omega
        have hkl : A.length + 1 + L.length ≤ k + 1 := by rw [hA, hL, hkk]; simp
        have HAA := hide hA
        have HVV := hide hv
        have HLL := hide hL
        have HKK := hide hkk
        have q1 : IntKind.i64.wrap ((A.length : Int) + 1 - 1) = A.length := by rw [Int.add_sub_cancel]; exact wrapIdX (by omega) (by omega)
        have q2 : (A.length : Int) + 1 - 1 = A.length := by omega
        have HWA := hide hwA
        have HTBB := hide htb
        clear hwA htb ht hA hv hL hkk
        go_wp2
        rw [← unhide HWA, ← unhide HTBB]
        go_quiet (fail)
        go_wp2_with (at_builtin; refine wpList_append_row rfl (.tmp 27) (.tmp 28) rfl w.heap.size _ A.length (A.map (·.1)) rfl (by rw [unhide HAA]; exact World.ownsRow_nil _ _ _ _) _ 1 rfl _ (blkAt rfl) (by omega) ?c3 ?_)
        case c3 => exact Nat.le_trans (unhide XA).size (by simp)
        intro g rc w5 hO5 hg5 hl5
        have HI : Hid (LI w5 w.heap.size (some ⟨g, 0, none⟩) rc A v L) := by
          refine ⟨by rw [unhide HVV]; exact hO5, fun p hp => ?_, by rw [unhide HVV, unhide HLL]; exact TO.nil _ _, fun b hb => ?_⟩
          · rw [unhide HAA] at hp; cases hp
          · rw [unhide HVV] at hb; cases hb
        have HTN : Hid (v.ownBlock ≠ some tb) := fun e => by rw [unhide HVV] at e; cases e
        have hgg : tb < g := by
          rcases hl5 with e | e
          · cases e
          · omega
        have HTG : Hid (tb ≠ g) := Nat.ne_of_lt hgg
        have HTB : Hid (Blk w5 tb #[.int .i64 t.kind, .string ⟨t.text.toArray⟩, .int .i32 t.num, .int .i64 t.place, .int .i64 t.line] 33) := blkGrownO ((unhide HTA).ext (((Ext.refl _).drewN _).alloc _)) hg5 (fun e => by cases e)
        have XW : Hid (Ext w w5) := Below.trans (((unhide XA).drewN _).alloc _) (grown_below hg5 (Nat.le_trans (unhide XA).size (by simp)) (fun b hb => by cases hb))
        have HBS : Hid (w.heap.size ≤ w5.drew.heap.size) := (unhide XW).size
        clear hO5 hg5 hl5 c0 c1 c2 c3 c4 HTA
        go_wp2
        obtain ⟨vo, vc, hv, _⟩ := (unhide HI).last.shape
        subst hv
        obtain ⟨ao6, cap6, w6, hrun6, hO6, hg6, hloc6⟩ := append_T (w := w5.drew) ((unhide HI).last.ext (Ext.refl _).drew) (unhide HBS) (by omega) t
        have hI0 : LI (w5.drew.alloc (.cells #[.int .i64 t.kind, .string ⟨t.text.toArray⟩, .int .i32 t.num, .int .i64 t.place, .int .i64 t.line] 33)) w.heap.size (some ⟨g, 0, none⟩) rc A (.slice vo L.length vc) L := (unhide HI).ext ((Ext.refl w5).drew.alloc _)
        have hL6 : (L ++ [t]).length = L.length + 1 := by simp
        obtain ⟨hI6, hb6⟩ := hI0.more (t := t) hg6 hO6 (fun b hb => (hloc6 b hb).imp id (fun h => by rw [World.size_alloc]; exact h)) rfl
        have hTB6 : Blk w6 tb #[.int .i64 t.kind, .string ⟨t.text.toArray⟩, .int .i32 t.num, .int .i64 t.place, .int .i64 t.line] 33 := blkGrownO ((unhide HTB).ext ((Ext.refl w5).drew.alloc _)) hg6 (fun e => unhide HTN e)
        have hO0 := (unhide HI).outer
        have d5 : w5.drew.cell? ⟨g, A.length, none⟩ = some (.slice vo L.length vc) := by have := hO0.cellAt A.length (by omega); rw [List.getElem?_append_right (by simp)] at this; simpa using this
        have d5a : (w5.alloc (.cells #[.int .i64 t.kind, .string ⟨t.text.toArray⟩, .int .i32 t.num, .int .i64 t.place, .int .i64 t.line] 33)).drew.cell? ⟨g, A.length, none⟩ = some (.slice vo L.length vc) := by have h1 := (World.ownsRow.alloc hO0 (.cells #[.int .i64 t.kind, .string ⟨t.text.toArray⟩, .int .i32 t.num, .int .i64 t.place, .int .i64 t.line] 33)).cellAt A.length (by omega); rw [List.getElem?_append_right (by simp)] at h1; simpa using h1
        have hO6b := World.ownsRow.kept (World.ownsRow.alloc (w := w5.drew) hO0 (.cells #[.int .i64 t.kind, .string ⟨t.text.toArray⟩, .int .i32 t.num, .int .i64 t.place, .int .i64 t.line] 33)) (w' := w6) hg6 (.inr (fun e => (unhide HI).ne g e.symm rfl))
        have d6 : w6.cell? ⟨g, A.length, none⟩ = some (.slice vo L.length vc) := by have h1 := hO6b.cellAt A.length (by omega); rw [List.getElem?_append_right (by simp)] at h1; simpa using h1
        have f6 : w6.frozen? ⟨g, A.length, none⟩ = false := hO6b.frozenAt A.length
        have X6 : Hid (Ext w (w6.setCell ⟨g, A.length, none⟩ (.slice ao6 (L.length + 1) cap6))) := Below.trans ((unhide XW).drew.alloc _) hb6
        have HRUN := hide hrun6
        have HI6 := hide hI6
        have HTB6 := hide hTB6
        have D5 := hide d5
        have D5A := hide d5a
        have D6 := hide d6
        have F6 := hide f6
        clear hrun6 hO6 hg6 hloc6 hI0 hI6 hb6 hTB6 hO0 hO6b d5 d5a d6 f6
        have i0 : (0 : Int) ≤ (A.length : Int) ∧ (A.length : Int) < (A.length : Int) + 1 := ⟨by omega, by omega⟩
        refine wp_region_noPanic ?_
        refine wp_region_held_drew (S := fun wx => Blk wx tb #[.int .i64 t.kind, .string ⟨t.text.toArray⟩, .int .i32 t.num, .int .i64 t.place, .int .i64 t.line] 33) (by kernel_rfl) (unhide HTB) (fun HS => ?_)
        refine wpAnyH_take (i := 0) (oi := { dst := some 33, op := Op.move (Operand.tmp 3), type := _, pos := _, after := _, guard := none }) (v := .slice (some ⟨g, 0, none⟩) (A.length + 1) rc) rfl (by kernel_rfl) (by kernel_rfl) (by kernel_rfl) (fun _ _ _ h => h) (Or.inl ⟨by rfl, fun wx hx => by go_simp⟩) HS ?_
        simp only [Act.put, List.setIfInBounds_toArray, List.set_cons_zero, List.set_cons_succ]
        refine wpAnyH_take (i := 1) (oi := { dst := some 34, op := Op.move (Operand.tmp 6), type := _, pos := _, after := _, guard := none }) (v := .int .i64 (A.length : Int)) rfl (by kernel_rfl) (by kernel_rfl) (by kernel_rfl) (fun _ _ _ h => h) (Or.inl ⟨by rfl, fun wx hx => by go_simp⟩) HS ?_
        simp only [Act.put, List.setIfInBounds_toArray, List.set_cons_zero, List.set_cons_succ]
        refine wpAnyH_take (i := 2) (oi := { dst := some 35, op := Op.move (Operand.tmp 3), type := _, pos := _, after := _, guard := none }) (v := .slice (some ⟨g, 0, none⟩) (A.length + 1) rc) rfl (by kernel_rfl) (by kernel_rfl) (by kernel_rfl) (fun _ _ _ h => h) (Or.inl ⟨by rfl, fun wx hx => by go_simp⟩) HS ?_
        simp only [Act.put, List.setIfInBounds_toArray, List.set_cons_zero, List.set_cons_succ]
        refine wpAnyH_take (i := 3) (oi := { dst := some 36, op := Op.move (Operand.tmp 6), type := _, pos := _, after := _, guard := none }) (v := .int .i64 (A.length : Int)) rfl (by kernel_rfl) (by kernel_rfl) (by kernel_rfl) (fun _ _ _ h => h) (Or.inl ⟨by rfl, fun wx hx => by go_simp⟩) HS ?_
        simp only [Act.put, List.setIfInBounds_toArray, List.set_cons_zero, List.set_cons_succ]
        refine wpAnyH_take (i := 4) (oi := { dst := some 37, op := Op.indexAddr 58 (Operand.tmp 35) (Operand.tmp 36), type := _, pos := _, after := _, guard := none }) (v := .pointer (some ⟨g, A.length, none⟩)) rfl (by kernel_rfl) (by kernel_rfl) (by kernel_rfl) (fun _ _ _ h => h) (Or.inl ⟨by rfl, fun wx hx => by go_simp⟩) HS ?_
        simp only [Act.put, List.setIfInBounds_toArray, List.set_cons_zero, List.set_cons_succ]
        refine wpAnyH_take (i := 6) (oi := { dst := some 39, op := Op.load 33 (Operand.tmp 5), type := _, pos := _, after := _, guard := none }) (v := .agg #[.int .i64 t.kind, .string ⟨t.text.toArray⟩, .int .i32 t.num, .int .i64 t.place, .int .i64 t.line]) rfl (by kernel_rfl) (by kernel_rfl) (by kernel_rfl) (fun _ _ _ h => h) (Or.inl ⟨by rfl, fun wx hx => by have d0 := hx.cell (i := 0) (v := .int .i64 t.kind) rfl; have d1 := hx.cell (i := 1) (v := .string ⟨t.text.toArray⟩) rfl; have d2 := hx.cell (i := 2) (v := .int .i32 t.num) rfl; have d3 := hx.cell (i := 3) (v := .int .i64 t.place) rfl; have d4 := hx.cell (i := 4) (v := .int .i64 t.line) rfl; go_simp⟩) HS ?_
        simp only [Act.put, List.setIfInBounds_toArray, List.set_cons_zero, List.set_cons_succ]
        refine wpAnyH_ready (rs := [5, 7]) (by kernel_rfl) (by simp) (AllReadyH.cons (o := { dst := some 38, op := Op.load 23 (Operand.tmp 37), type := _, pos := _, after := _, guard := none }) rfl (fun KK hK => ?_) (AllReadyH.cons (o := { dst := some 40, op := Op.buildSlice 23 1 #[(0, Operand.tmp 39)], type := _, pos := _, after := _, guard := none }) rfl (fun KK hK => ?_) AllReadyH.nil))
        · refine Eq.mpr (if_pos (by rfl)) ?_
          have d2 := unhide D5
          go_simp
          refine hK.out _ _ HS (fun _ => ?_)
          clear hK KK d2
          try simp only [Act.put, List.setIfInBounds_toArray, List.set_cons_zero, List.set_cons_succ]
          refine wpAnyH_ready (rs := [7]) (by kernel_rfl) (by simp) (AllReadyH.cons (o := { dst := some 40, op := Op.buildSlice 23 1 #[(0, Operand.tmp 39)], type := _, pos := _, after := _, guard := none }) rfl (fun KK hK => ?_) AllReadyH.nil)
          refine Eq.mpr (if_pos (by rfl)) ?_
          go_simp
          have HS2 : Blk (w5.drew.alloc (.cells #[.int .i64 t.kind, .string ⟨t.text.toArray⟩, .int .i32 t.num, .int .i64 t.place, .int .i64 t.line] 33)) tb #[.int .i64 t.kind, .string ⟨t.text.toArray⟩, .int .i32 t.num, .int .i64 t.place, .int .i64 t.line] 33 := HS.alloc _
          clear HS
          have HS := HS2
          clear HS2
          refine hK.out _ _ HS (fun _ => ?_)
          clear hK KK
          try simp only [Act.put, List.setIfInBounds_toArray, List.set_cons_zero, List.set_cons_succ]
          refine wpAnyH_ready (rs := [8]) (by kernel_rfl) (by simp) (AllReadyH.cons (o := { dst := some 41, op := Op.call { callee := Callee.builtin Builtin.append, args := #[Operand.tmp 38, Operand.tmp 40], argTypes := #[23, 23] }, type := _, pos := _, after := _, guard := none }) rfl (fun KK hK => ?_) AllReadyH.nil)
          refine step_run (by rfl) (.tmp 38) (.tmp 40) 23 (by rfl) (by rfl) (by rfl) (unhide HRUN) ?_
          clear HS
          have HS := unhide HTB6
          refine hK.out _ _ HS (fun _ => ?_)
          clear hK KK
          try simp only [Act.put, List.setIfInBounds_toArray, List.set_cons_zero, List.set_cons_succ]
          refine wpAnyH_take (i := 9) (oi := { dst := some 42, op := Op.indexAddr 58 (Operand.tmp 33) (Operand.tmp 34), type := _, pos := _, after := _, guard := none }) (v := .pointer (some ⟨g, A.length, none⟩)) rfl (by kernel_rfl) (by kernel_rfl) (by kernel_rfl) (fun _ _ _ h => h) (Or.inl ⟨by rfl, fun wx hx => by go_simp⟩) HS ?_
          simp only [Act.put, List.setIfInBounds_toArray, List.set_cons_zero, List.set_cons_succ]
          refine wpAnyH_ready (rs := [10]) (by kernel_rfl) (by simp) (AllReadyH.cons (o := { dst := none, op := Op.store 23 (Operand.tmp 42) (Operand.tmp 41), type := _, pos := _, after := _, guard := none }) rfl (fun KK hK => ?_) AllReadyH.nil)
          refine Eq.mpr (if_pos (by rfl)) ?_
          have e2 := unhide D6
          have fe := unhide F6
          go_simp
          refine hK.out _ _ (HS.other A.length _ (unhide HTG)) (fun _ => ?_)
          clear hK KK e2 fe
          try simp only [Act.put, List.setIfInBounds_toArray, List.set_cons_zero, List.set_cons_succ]
          refine wpAnyH_done (by kernel_rfl) ?_ _
          refine NoPanic.normal ?_
          go_wp2
          have hA6 := unhide HI6
          refine ⟨⟨k + 1, by omega, by rw [unhide HKK]; rfl, unhide X6, .inr ⟨by omega, some ⟨g, 0, none⟩, rc, A, .slice ao6 (L.length + 1) cap6, L ++ [t], rfl, hA6, unhide HLN, by omega⟩⟩, ?_⟩
          simp [intOf]
          omega
        · refine Eq.mpr (if_pos (by rfl)) ?_
          go_simp
          have HS2 : Blk (w5.drew.alloc (.cells #[.int .i64 t.kind, .string ⟨t.text.toArray⟩, .int .i32 t.num, .int .i64 t.place, .int .i64 t.line] 33)) tb #[.int .i64 t.kind, .string ⟨t.text.toArray⟩, .int .i32 t.num, .int .i64 t.place, .int .i64 t.line] 33 := HS.alloc _
          clear HS
          have HS := HS2
          clear HS2
          refine hK.out _ _ HS (fun _ => ?_)
          clear hK KK
          try simp only [Act.put, List.setIfInBounds_toArray, List.set_cons_zero, List.set_cons_succ]
          refine wpAnyH_ready (rs := [5]) (by kernel_rfl) (by simp) (AllReadyH.cons (o := { dst := some 38, op := Op.load 23 (Operand.tmp 37), type := _, pos := _, after := _, guard := none }) rfl (fun KK hK => ?_) AllReadyH.nil)
          refine Eq.mpr (if_pos (by rfl)) ?_
          have d2 := unhide D5A
          go_simp
          refine hK.out _ _ HS (fun _ => ?_)
          clear hK KK d2
          try simp only [Act.put, List.setIfInBounds_toArray, List.set_cons_zero, List.set_cons_succ]
          refine wpAnyH_ready (rs := [8]) (by kernel_rfl) (by simp) (AllReadyH.cons (o := { dst := some 41, op := Op.call { callee := Callee.builtin Builtin.append, args := #[Operand.tmp 38, Operand.tmp 40], argTypes := #[23, 23] }, type := _, pos := _, after := _, guard := none }) rfl (fun KK hK => ?_) AllReadyH.nil)
          refine step_run (by rfl) (.tmp 38) (.tmp 40) 23 (by rfl) (by rfl) (by rfl) (unhide HRUN) ?_
          clear HS
          have HS := unhide HTB6
          refine hK.out _ _ HS (fun _ => ?_)
          clear hK KK
          try simp only [Act.put, List.setIfInBounds_toArray, List.set_cons_zero, List.set_cons_succ]
          refine wpAnyH_take (i := 9) (oi := { dst := some 42, op := Op.indexAddr 58 (Operand.tmp 33) (Operand.tmp 34), type := _, pos := _, after := _, guard := none }) (v := .pointer (some ⟨g, A.length, none⟩)) rfl (by kernel_rfl) (by kernel_rfl) (by kernel_rfl) (fun _ _ _ h => h) (Or.inl ⟨by rfl, fun wx hx => by go_simp⟩) HS ?_
          simp only [Act.put, List.setIfInBounds_toArray, List.set_cons_zero, List.set_cons_succ]
          refine wpAnyH_ready (rs := [10]) (by kernel_rfl) (by simp) (AllReadyH.cons (o := { dst := none, op := Op.store 23 (Operand.tmp 42) (Operand.tmp 41), type := _, pos := _, after := _, guard := none }) rfl (fun KK hK => ?_) AllReadyH.nil)
          refine Eq.mpr (if_pos (by rfl)) ?_
          have e2 := unhide D6
          have fe := unhide F6
          go_simp
          refine hK.out _ _ (HS.other A.length _ (unhide HTG)) (fun _ => ?_)
          clear hK KK e2 fe
          try simp only [Act.put, List.setIfInBounds_toArray, List.set_cons_zero, List.set_cons_succ]
          refine wpAnyH_done (by kernel_rfl) ?_ _
          refine NoPanic.normal ?_
          go_wp2
          have hA6 := unhide HI6
          refine ⟨⟨k + 1, by omega, by rw [unhide HKK]; rfl, unhide X6, .inr ⟨by omega, some ⟨g, 0, none⟩, rc, A, .slice ao6 (L.length + 1) cap6, L ++ [t], rfl, hA6, unhide HLN, by omega⟩⟩, ?_⟩
          simp [intOf]
          omega
      · rcases k with _ | j
        · omega
        have hjl : j < X.length := by omega
        obtain ⟨b2, o2, e2, h2⟩ := ((unhide HX).ext (unhide XA)).at j hjl
        cases e2
        have hcu := h2.line
        clear h2
        obtain ⟨u, hu⟩ : ∃ u, u = X[j] := ⟨_, rfl⟩
        rw [← hu] at hcu
        have htu : X.take (j + 1) = X.take j ++ [u] := by rw [hu]; exact List.take_succ_eq_append_getElem hjl
        have HTU := hide htu
        have HLI := hide hI
        have HLN0 := hide hln
        obtain ⟨g0, hg0, hg0s⟩ : ∃ g0, ro = some ⟨g0, 0, none⟩ ∧ g0 < wr.heap.size := by
          rcases hI.outer.2 with ⟨_, e⟩ | ⟨g, c, cur, e, _⟩
          · omega
          · cases e
            exact ⟨g, rfl, (World.ownsRow.lt hI.outer g rfl).2⟩
        have hvb : ∀ b, v.ownBlock = some b → b < wr.heap.size := fun b hb => (World.ownsRow.lt hI.last b hb).2
        have HVB := hide hvb
        subst hg0
        clear hI hln htu hu hvb
        have q1 : IntKind.i64.wrap ((j : Int) + 1 - 1) = j := by rw [Int.add_sub_cancel]; exact wrapIdX (by omega) (by omega)
        have q2 : (j : Int) + 1 - 1 = j := by omega
        have b0 : ((j : Int) + 1 == 0) = false := beq_eq_false_iff_ne.2 (by omega)
        have p4 := (unhide HTA).cell (i := 4) (v := .int .i64 t.line) rfl
        have hca : X.length ≤ ca := by
          obtain ⟨_, _, e, _, h1, _⟩ := unhide HX
          cases e
          exact h1
        have HWA := hide hwA
        have HTBB := hide htb
        clear hwA htb ht
        obtain ⟨k, hkk⟩ : ∃ k : Nat, k = j + 1 := ⟨_, rfl⟩
        have hlt2 : k < X.length := by omega
        have hkl2 : A.length + 1 + L.length ≤ k + 1 := by omega
        have HKK := hide hkk
        clear hkk
        go_wp2
        rw [← unhide HWA, ← unhide HTBB]
        clear c0 c1 c2 c3 c4
        by_cases hline : u.line = t.line
        · have f1 : (t.line == u.line) = true := by rw [hline]; simp
          have f2 : (t.line != u.line) = false := by simp [bne, f1]
          have HLN : Hid (linesP (X.take (k + 1)) = A.map (·.2) ++ [L ++ [t]]) := by
            show linesP (X.take (k + 1)) = _
            rw [unhide HKK, unhide HTK, unhide HTU]
            exact lines_same (by rw [← unhide HTU]; exact unhide HLN0) hline
          clear hline
          go_quiet (fail)
          have q3 : IntKind.i64.wrap ((A.length : Int) + 1 - 1) = A.length := by rw [Int.add_sub_cancel]; exact wrapIdX (by omega) (by omega)
          have q4 : (A.length : Int) + 1 - 1 = A.length := by omega
          obtain ⟨w5, hw5⟩ : ∃ w5, w5 = wA.drewN nq := ⟨_, rfl⟩
          have XW : Hid (Ext w w5) := by rw [hw5]; exact (unhide XA).drewN nq
          have HI : Hid (LI w5 w.heap.size (some ⟨g0, 0, none⟩) rc A v L) := by rw [hw5, unhide HWA]; exact (unhide HLI).ext (((Ext.refl wr).alloc _).drewN nq)
          have HTB : Hid (Blk w5 tb #[.int .i64 t.kind, .string ⟨t.text.toArray⟩, .int .i32 t.num, .int .i64 t.place, .int .i64 t.line] 33) := by rw [hw5]; exact unhide HTA
          rw [← hw5]
          have HTN : Hid (v.ownBlock ≠ some tb) := fun e => by have := unhide HVB tb e; rw [unhide HTBB] at this; omega
          have HTG : Hid (tb ≠ g0) := fun e => by rw [unhide HTBB] at e; omega
          have HBS : Hid (w.heap.size ≤ w5.drew.heap.size) := (unhide XW).size
          obtain ⟨g, hgq⟩ : ∃ g, g = g0 := ⟨_, rfl⟩
          rw [← hgq] at HI HTG
          rw [← hgq]
          clear hw5 hcu p4 hgq HTA HLI f1 f2
          go_wp2
          obtain ⟨vo, vc, hv, _⟩ := (unhide HI).last.shape
          subst hv
          obtain ⟨ao6, cap6, w6, hrun6, hO6, hg6, hloc6⟩ := append_T (w := w5.drew) ((unhide HI).last.ext (Ext.refl _).drew) (unhide HBS) (by omega) t
          have hI0 : LI (w5.drew.alloc (.cells #[.int .i64 t.kind, .string ⟨t.text.toArray⟩, .int .i32 t.num, .int .i64 t.place, .int .i64 t.line] 33)) w.heap.size (some ⟨g, 0, none⟩) rc A (.slice vo L.length vc) L := (unhide HI).ext ((Ext.refl w5).drew.alloc _)
          have hL6 : (L ++ [t]).length = L.length + 1 := by simp
          obtain ⟨hI6, hb6⟩ := hI0.more (t := t) hg6 hO6 (fun b hb => (hloc6 b hb).imp id (fun h => by rw [World.size_alloc]; exact h)) rfl
          have hTB6 : Blk w6 tb #[.int .i64 t.kind, .string ⟨t.text.toArray⟩, .int .i32 t.num, .int .i64 t.place, .int .i64 t.line] 33 := blkGrownO ((unhide HTB).ext ((Ext.refl w5).drew.alloc _)) hg6 (fun e => unhide HTN e)
          have hO0 := (unhide HI).outer
          have d5 : w5.drew.cell? ⟨g, A.length, none⟩ = some (.slice vo L.length vc) := by have := hO0.cellAt A.length (by omega); rw [List.getElem?_append_right (by simp)] at this; simpa using this
          have d5a : (w5.alloc (.cells #[.int .i64 t.kind, .string ⟨t.text.toArray⟩, .int .i32 t.num, .int .i64 t.place, .int .i64 t.line] 33)).drew.cell? ⟨g, A.length, none⟩ = some (.slice vo L.length vc) := by have h1 := (World.ownsRow.alloc hO0 (.cells #[.int .i64 t.kind, .string ⟨t.text.toArray⟩, .int .i32 t.num, .int .i64 t.place, .int .i64 t.line] 33)).cellAt A.length (by omega); rw [List.getElem?_append_right (by simp)] at h1; simpa using h1
          have hO6b := World.ownsRow.kept (World.ownsRow.alloc (w := w5.drew) hO0 (.cells #[.int .i64 t.kind, .string ⟨t.text.toArray⟩, .int .i32 t.num, .int .i64 t.place, .int .i64 t.line] 33)) (w' := w6) hg6 (.inr (fun e => (unhide HI).ne g e.symm rfl))
          have d6 : w6.cell? ⟨g, A.length, none⟩ = some (.slice vo L.length vc) := by have h1 := hO6b.cellAt A.length (by omega); rw [List.getElem?_append_right (by simp)] at h1; simpa using h1
          have f6 : w6.frozen? ⟨g, A.length, none⟩ = false := hO6b.frozenAt A.length
          have X6 : Hid (Ext w (w6.setCell ⟨g, A.length, none⟩ (.slice ao6 (L.length + 1) cap6))) := Below.trans ((unhide XW).drew.alloc _) hb6
          have HRUN := hide hrun6
          have HI6 := hide hI6
          have HTB6 := hide hTB6
          have D5 := hide d5
          have D5A := hide d5a
          have D6 := hide d6
          have F6 := hide f6
          clear hrun6 hO6 hg6 hloc6 hI0 hI6 hb6 hTB6 hO0 hO6b d5 d5a d6 f6
          have i0 : (0 : Int) ≤ (A.length : Int) ∧ (A.length : Int) < (A.length : Int) + 1 := ⟨by omega, by omega⟩
          refine wp_region_noPanic ?_
          refine wp_region_held_drew (S := fun wx => Blk wx tb #[.int .i64 t.kind, .string ⟨t.text.toArray⟩, .int .i32 t.num, .int .i64 t.place, .int .i64 t.line] 33) (by kernel_rfl) (unhide HTB) (fun HS => ?_)
          refine wpAnyH_take (i := 0) (oi := { dst := some 33, op := Op.move (Operand.tmp 3), type := _, pos := _, after := _, guard := none }) (v := .slice (some ⟨g, 0, none⟩) (A.length + 1) rc) rfl (by kernel_rfl) (by kernel_rfl) (by kernel_rfl) (fun _ _ _ h => h) (Or.inl ⟨by rfl, fun wx hx => by go_simp⟩) HS ?_
          simp only [Act.put, List.setIfInBounds_toArray, List.set_cons_zero, List.set_cons_succ]
          refine wpAnyH_take (i := 1) (oi := { dst := some 34, op := Op.move (Operand.tmp 6), type := _, pos := _, after := _, guard := none }) (v := .int .i64 (A.length : Int)) rfl (by kernel_rfl) (by kernel_rfl) (by kernel_rfl) (fun _ _ _ h => h) (Or.inl ⟨by rfl, fun wx hx => by go_simp⟩) HS ?_
          simp only [Act.put, List.setIfInBounds_toArray, List.set_cons_zero, List.set_cons_succ]
          refine wpAnyH_take (i := 2) (oi := { dst := some 35, op := Op.move (Operand.tmp 3), type := _, pos := _, after := _, guard := none }) (v := .slice (some ⟨g, 0, none⟩) (A.length + 1) rc) rfl (by kernel_rfl) (by kernel_rfl) (by kernel_rfl) (fun _ _ _ h => h) (Or.inl ⟨by rfl, fun wx hx => by go_simp⟩) HS ?_
          simp only [Act.put, List.setIfInBounds_toArray, List.set_cons_zero, List.set_cons_succ]
          refine wpAnyH_take (i := 3) (oi := { dst := some 36, op := Op.move (Operand.tmp 6), type := _, pos := _, after := _, guard := none }) (v := .int .i64 (A.length : Int)) rfl (by kernel_rfl) (by kernel_rfl) (by kernel_rfl) (fun _ _ _ h => h) (Or.inl ⟨by rfl, fun wx hx => by go_simp⟩) HS ?_
          simp only [Act.put, List.setIfInBounds_toArray, List.set_cons_zero, List.set_cons_succ]
          refine wpAnyH_take (i := 4) (oi := { dst := some 37, op := Op.indexAddr 58 (Operand.tmp 35) (Operand.tmp 36), type := _, pos := _, after := _, guard := none }) (v := .pointer (some ⟨g, A.length, none⟩)) rfl (by kernel_rfl) (by kernel_rfl) (by kernel_rfl) (fun _ _ _ h => h) (Or.inl ⟨by rfl, fun wx hx => by go_simp⟩) HS ?_
          simp only [Act.put, List.setIfInBounds_toArray, List.set_cons_zero, List.set_cons_succ]
          refine wpAnyH_take (i := 6) (oi := { dst := some 39, op := Op.load 33 (Operand.tmp 5), type := _, pos := _, after := _, guard := none }) (v := .agg #[.int .i64 t.kind, .string ⟨t.text.toArray⟩, .int .i32 t.num, .int .i64 t.place, .int .i64 t.line]) rfl (by kernel_rfl) (by kernel_rfl) (by kernel_rfl) (fun _ _ _ h => h) (Or.inl ⟨by rfl, fun wx hx => by have d0 := hx.cell (i := 0) (v := .int .i64 t.kind) rfl; have d1 := hx.cell (i := 1) (v := .string ⟨t.text.toArray⟩) rfl; have d2 := hx.cell (i := 2) (v := .int .i32 t.num) rfl; have d3 := hx.cell (i := 3) (v := .int .i64 t.place) rfl; have d4 := hx.cell (i := 4) (v := .int .i64 t.line) rfl; go_simp⟩) HS ?_
          simp only [Act.put, List.setIfInBounds_toArray, List.set_cons_zero, List.set_cons_succ]
          refine wpAnyH_ready (rs := [5, 7]) (by kernel_rfl) (by simp) (AllReadyH.cons (o := { dst := some 38, op := Op.load 23 (Operand.tmp 37), type := _, pos := _, after := _, guard := none }) rfl (fun KK hK => ?_) (AllReadyH.cons (o := { dst := some 40, op := Op.buildSlice 23 1 #[(0, Operand.tmp 39)], type := _, pos := _, after := _, guard := none }) rfl (fun KK hK => ?_) AllReadyH.nil))
          · refine Eq.mpr (if_pos (by rfl)) ?_
            have d2 := unhide D5
            go_simp
            refine hK.out _ _ HS (fun _ => ?_)
            clear hK KK d2
            try simp only [Act.put, List.setIfInBounds_toArray, List.set_cons_zero, List.set_cons_succ]
            refine wpAnyH_ready (rs := [7]) (by kernel_rfl) (by simp) (AllReadyH.cons (o := { dst := some 40, op := Op.buildSlice 23 1 #[(0, Operand.tmp 39)], type := _, pos := _, after := _, guard := none }) rfl (fun KK hK => ?_) AllReadyH.nil)
            refine Eq.mpr (if_pos (by rfl)) ?_
            go_simp
            have HS2 : Blk (w5.drew.alloc (.cells #[.int .i64 t.kind, .string ⟨t.text.toArray⟩, .int .i32 t.num, .int .i64 t.place, .int .i64 t.line] 33)) tb #[.int .i64 t.kind, .string ⟨t.text.toArray⟩, .int .i32 t.num, .int .i64 t.place, .int .i64 t.line] 33 := HS.alloc _
            clear HS
            have HS := HS2
            clear HS2
            refine hK.out _ _ HS (fun _ => ?_)
            clear hK KK
            try simp only [Act.put, List.setIfInBounds_toArray, List.set_cons_zero, List.set_cons_succ]
            refine wpAnyH_ready (rs := [8]) (by kernel_rfl) (by simp) (AllReadyH.cons (o := { dst := some 41, op := Op.call { callee := Callee.builtin Builtin.append, args := #[Operand.tmp 38, Operand.tmp 40], argTypes := #[23, 23] }, type := _, pos := _, after := _, guard := none }) rfl (fun KK hK => ?_) AllReadyH.nil)
            refine step_run (by rfl) (.tmp 38) (.tmp 40) 23 (by rfl) (by rfl) (by rfl) (unhide HRUN) ?_
            clear HS
            have HS := unhide HTB6
            refine hK.out _ _ HS (fun _ => ?_)
            clear hK KK
            try simp only [Act.put, List.setIfInBounds_toArray, List.set_cons_zero, List.set_cons_succ]
            refine wpAnyH_take (i := 9) (oi := { dst := some 42, op := Op.indexAddr 58 (Operand.tmp 33) (Operand.tmp 34), type := _, pos := _, after := _, guard := none }) (v := .pointer (some ⟨g, A.length, none⟩)) rfl (by kernel_rfl) (by kernel_rfl) (by kernel_rfl) (fun _ _ _ h => h) (Or.inl ⟨by rfl, fun wx hx => by go_simp⟩) HS ?_
            simp only [Act.put, List.setIfInBounds_toArray, List.set_cons_zero, List.set_cons_succ]
            refine wpAnyH_ready (rs := [10]) (by kernel_rfl) (by simp) (AllReadyH.cons (o := { dst := none, op := Op.store 23 (Operand.tmp 42) (Operand.tmp 41), type := _, pos := _, after := _, guard := none }) rfl (fun KK hK => ?_) AllReadyH.nil)
            refine Eq.mpr (if_pos (by rfl)) ?_
            have e2 := unhide D6
            have fe := unhide F6
            go_simp
            refine hK.out _ _ (HS.other A.length _ (unhide HTG)) (fun _ => ?_)
            clear hK KK e2 fe
            try simp only [Act.put, List.setIfInBounds_toArray, List.set_cons_zero, List.set_cons_succ]
            refine wpAnyH_done (by kernel_rfl) ?_ _
            refine NoPanic.normal ?_
            go_wp2
            have hA6 := unhide HI6
            refine ⟨⟨k + 1, by omega, by rw [unhide HKK]; push_cast; rfl, unhide X6, .inr ⟨by omega, some ⟨g, 0, none⟩, rc, A, .slice ao6 (L.length + 1) cap6, L ++ [t], rfl, hA6, unhide HLN, by omega⟩⟩, ?_⟩
            simp [intOf]
            omega
          · refine Eq.mpr (if_pos (by rfl)) ?_
            go_simp
            have HS2 : Blk (w5.drew.alloc (.cells #[.int .i64 t.kind, .string ⟨t.text.toArray⟩, .int .i32 t.num, .int .i64 t.place, .int .i64 t.line] 33)) tb #[.int .i64 t.kind, .string ⟨t.text.toArray⟩, .int .i32 t.num, .int .i64 t.place, .int .i64 t.line] 33 := HS.alloc _
            clear HS
            have HS := HS2
            clear HS2
            refine hK.out _ _ HS (fun _ => ?_)
            clear hK KK
            try simp only [Act.put, List.setIfInBounds_toArray, List.set_cons_zero, List.set_cons_succ]
            refine wpAnyH_ready (rs := [5]) (by kernel_rfl) (by simp) (AllReadyH.cons (o := { dst := some 38, op := Op.load 23 (Operand.tmp 37), type := _, pos := _, after := _, guard := none }) rfl (fun KK hK => ?_) AllReadyH.nil)
            refine Eq.mpr (if_pos (by rfl)) ?_
            have d2 := unhide D5A
            go_simp
            refine hK.out _ _ HS (fun _ => ?_)
            clear hK KK d2
            try simp only [Act.put, List.setIfInBounds_toArray, List.set_cons_zero, List.set_cons_succ]
            refine wpAnyH_ready (rs := [8]) (by kernel_rfl) (by simp) (AllReadyH.cons (o := { dst := some 41, op := Op.call { callee := Callee.builtin Builtin.append, args := #[Operand.tmp 38, Operand.tmp 40], argTypes := #[23, 23] }, type := _, pos := _, after := _, guard := none }) rfl (fun KK hK => ?_) AllReadyH.nil)
            refine step_run (by rfl) (.tmp 38) (.tmp 40) 23 (by rfl) (by rfl) (by rfl) (unhide HRUN) ?_
            clear HS
            have HS := unhide HTB6
            refine hK.out _ _ HS (fun _ => ?_)
            clear hK KK
            try simp only [Act.put, List.setIfInBounds_toArray, List.set_cons_zero, List.set_cons_succ]
            refine wpAnyH_take (i := 9) (oi := { dst := some 42, op := Op.indexAddr 58 (Operand.tmp 33) (Operand.tmp 34), type := _, pos := _, after := _, guard := none }) (v := .pointer (some ⟨g, A.length, none⟩)) rfl (by kernel_rfl) (by kernel_rfl) (by kernel_rfl) (fun _ _ _ h => h) (Or.inl ⟨by rfl, fun wx hx => by go_simp⟩) HS ?_
            simp only [Act.put, List.setIfInBounds_toArray, List.set_cons_zero, List.set_cons_succ]
            refine wpAnyH_ready (rs := [10]) (by kernel_rfl) (by simp) (AllReadyH.cons (o := { dst := none, op := Op.store 23 (Operand.tmp 42) (Operand.tmp 41), type := _, pos := _, after := _, guard := none }) rfl (fun KK hK => ?_) AllReadyH.nil)
            refine Eq.mpr (if_pos (by rfl)) ?_
            have e2 := unhide D6
            have fe := unhide F6
            go_simp
            refine hK.out _ _ (HS.other A.length _ (unhide HTG)) (fun _ => ?_)
            clear hK KK e2 fe
            try simp only [Act.put, List.setIfInBounds_toArray, List.set_cons_zero, List.set_cons_succ]
            refine wpAnyH_done (by kernel_rfl) ?_ _
            refine NoPanic.normal ?_
            go_wp2
            have hA6 := unhide HI6
            refine ⟨⟨k + 1, by omega, by rw [unhide HKK]; push_cast; rfl, unhide X6, .inr ⟨by omega, some ⟨g, 0, none⟩, rc, A, .slice ao6 (L.length + 1) cap6, L ++ [t], rfl, hA6, unhide HLN, by omega⟩⟩, ?_⟩
            simp [intOf]
            omega
        · have f1 : (t.line == u.line) = false := beq_eq_false_iff_ne.2 (fun e => hline e.symm)
          have f2 : (t.line != u.line) = true := by simp [bne, f1]
          have hg0t : g0 < tb := by rw [unhide HTBB]; exact hg0s
          obtain ⟨A2, hA2⟩ : ∃ A2, A2 = A ++ [(v, L)] := ⟨_, rfl⟩
          obtain ⟨L2, hL2⟩ : ∃ L2 : List Tok, L2 = [] := ⟨_, rfl⟩
          have hl2 : A2.length = A.length + 1 := by rw [hA2]; simp
          have hln3 : linesP (X.take (k + 1)) = A2.map (·.2) ++ [L2 ++ [t]] := by
            rw [unhide HKK, unhide HTK, unhide HTU, lines_other hline, ← unhide HTU, unhide HLN0, hA2, hL2, List.map_append]
            rfl
          have HLN := hide hln3
          have HAA := hide hA2
          have HLL := hide hL2
          have hkl3 : A2.length + 1 + L2.length ≤ k + 1 := by
            rw [hl2, hL2]
            have : 1 ≤ L.length := by
              cases hLL : L with
              | nil =>
                exfalso
                obtain ⟨B', L', h1, h2, _⟩ := lines_snoc u t (X.take j)
                have h3 := unhide HLN0
                rw [unhide HTU, h1] at h3
                obtain ⟨_, e⟩ := List.append_inj' h3 rfl
                cases e
                exact h2 hLL
              | cons a l => simp
            simp
            omega
          clear hline hln3 hA2 hL2
          go_quiet (fail)
          have HO0 : Hid (wA.ownsRow w.heap.size 23 1 (.slice (some ⟨g0, 0, none⟩) A2.length rc) A2.length (A.map (·.1) ++ [v])) := by
            show wA.ownsRow _ _ _ _ _ _
            rw [hl2, unhide HWA]
            exact World.ownsRow.alloc (unhide HLI).outer _
          have q3 : IntKind.i64.wrap ((A2.length : Int) + 1 - 1) = A2.length := by rw [Int.add_sub_cancel]; exact wrapIdX (by omega) (by omega)
          have q4 : (A2.length : Int) + 1 - 1 = A2.length := by omega
          rw [← hl2]
          have HL2 := hide hl2
          clear hl2
          go_wp2_with (at_builtin; refine wpList_append_row rfl (.tmp 27) (.tmp 28) rfl w.heap.size _ A2.length (A.map (·.1) ++ [v]) rfl (ownsKept (T := fun _ => False) (unhide HO0) (Out.of_ext (((Ext.refl wA).drewN _).alloc _)) (fun _ _ e => e)) _ 1 rfl _ (blkAt rfl) (by omega) ?c3 ?_)
          case c3 => exact Nat.le_trans (unhide XA).size (by simp)
          intro g rc2 w5 hO5 hg5 hl5
          have hI5 : LI w5 w.heap.size (some ⟨g, 0, none⟩) rc2 A2 (.slice none 0 0) L2 := by
            rw [unhide HAA, unhide HLL]
            rw [unhide HL2] at hO5 hg5 hl5
            refine ((unhide HLI).ext (((((Ext.refl wr).alloc (.cells #[.int .i64 t.kind, .string ⟨t.text.toArray⟩, .int .i32 t.num, .int .i64 t.place, .int .i64 t.line] 33)).drewN nq).alloc (.cells #[.slice none 0 0] 23)))).next (by rw [← unhide HWA]; exact hg5) (by rw [List.append_assoc]; exact hO5) (fun b hb => ?_)
            cases hb
            rcases hl5 with e | e
            · exact .inl e
            · rw [← unhide HWA]; exact .inr (by simpa using e)
          obtain ⟨v2, hv2⟩ : ∃ v2 : Value, v2 = .slice none 0 0 := ⟨_, rfl⟩
          rw [← hv2] at hI5
          have HI := hide hI5
          have HTN : Hid (v2.ownBlock ≠ some tb) := fun e => by rw [hv2] at e; cases e
          have HTG : Hid (tb ≠ g) := fun e => by
            rcases hl5 with e1 | e1
            · cases e1
              exact absurd e (Nat.ne_of_gt hg0t)
            · omega
          have HTB : Hid (Blk w5 tb #[.int .i64 t.kind, .string ⟨t.text.toArray⟩, .int .i32 t.num, .int .i64 t.place, .int .i64 t.line] 33) := blkGrownO ((unhide HTA).ext (((Ext.refl _).drewN _).alloc _)) hg5 (fun e => by
            cases e
            exact absurd hg0t (Nat.lt_irrefl _))
          have XW : Hid (Ext w w5) := Below.trans (((unhide XA).drewN _).alloc _) (grown_below hg5 (Nat.le_trans (unhide XA).size (by simp)) (fun b hb => by cases hb; exact (World.ownsRow.lt (unhide HO0) g0 rfl).1))
          have HBS : Hid (w.heap.size ≤ w5.drew.heap.size) := (unhide XW).size
          clear hO5 hg5 hl5 hI5 hcu p4 HTA HLI f1 f2 hv2 HO0 HL2 HAA HLL hkl2 HLN0 q1 q2
          obtain ⟨A, v, L, rc, hAA, hvv, hLL, hrr⟩ : ∃ A v L rc, A = A2 ∧ v = v2 ∧ L = L2 ∧ rc = rc2 := ⟨_, _, _, _, rfl, rfl, rfl, rfl⟩
          rw [← hAA, ← hvv, ← hLL, ← hrr] at HI
          rw [← hvv] at HTN
          rw [← hAA, ← hLL] at HLN hkl3
          rw [← hAA] at q3 q4
          rw [← hAA, ← hrr]
          have hkl2 := hkl3
          clear hkl3 hAA hvv hLL hrr
          go_wp2
          obtain ⟨vo, vc, hv, _⟩ := (unhide HI).last.shape
          subst hv
          obtain ⟨ao6, cap6, w6, hrun6, hO6, hg6, hloc6⟩ := append_T (w := w5.drew) ((unhide HI).last.ext (Ext.refl _).drew) (unhide HBS) (by omega) t
          have hI0 : LI (w5.drew.alloc (.cells #[.int .i64 t.kind, .string ⟨t.text.toArray⟩, .int .i32 t.num, .int .i64 t.place, .int .i64 t.line] 33)) w.heap.size (some ⟨g, 0, none⟩) rc A (.slice vo L.length vc) L := (unhide HI).ext ((Ext.refl w5).drew.alloc _)
          have hL6 : (L ++ [t]).length = L.length + 1 := by simp
          obtain ⟨hI6, hb6⟩ := hI0.more (t := t) hg6 hO6 (fun b hb => (hloc6 b hb).imp id (fun h => by rw [World.size_alloc]; exact h)) rfl
          have hTB6 : Blk w6 tb #[.int .i64 t.kind, .string ⟨t.text.toArray⟩, .int .i32 t.num, .int .i64 t.place, .int .i64 t.line] 33 := blkGrownO ((unhide HTB).ext ((Ext.refl w5).drew.alloc _)) hg6 (fun e => unhide HTN e)
          have hO0 := (unhide HI).outer
          have d5 : w5.drew.cell? ⟨g, A.length, none⟩ = some (.slice vo L.length vc) := by have := hO0.cellAt A.length (by omega); rw [List.getElem?_append_right (by simp)] at this; simpa using this
          have d5a : (w5.alloc (.cells #[.int .i64 t.kind, .string ⟨t.text.toArray⟩, .int .i32 t.num, .int .i64 t.place, .int .i64 t.line] 33)).drew.cell? ⟨g, A.length, none⟩ = some (.slice vo L.length vc) := by have h1 := (World.ownsRow.alloc hO0 (.cells #[.int .i64 t.kind, .string ⟨t.text.toArray⟩, .int .i32 t.num, .int .i64 t.place, .int .i64 t.line] 33)).cellAt A.length (by omega); rw [List.getElem?_append_right (by simp)] at h1; simpa using h1
          have hO6b := World.ownsRow.kept (World.ownsRow.alloc (w := w5.drew) hO0 (.cells #[.int .i64 t.kind, .string ⟨t.text.toArray⟩, .int .i32 t.num, .int .i64 t.place, .int .i64 t.line] 33)) (w' := w6) hg6 (.inr (fun e => (unhide HI).ne g e.symm rfl))
          have d6 : w6.cell? ⟨g, A.length, none⟩ = some (.slice vo L.length vc) := by have h1 := hO6b.cellAt A.length (by omega); rw [List.getElem?_append_right (by simp)] at h1; simpa using h1
          have f6 : w6.frozen? ⟨g, A.length, none⟩ = false := hO6b.frozenAt A.length
          have X6 : Hid (Ext w (w6.setCell ⟨g, A.length, none⟩ (.slice ao6 (L.length + 1) cap6))) := Below.trans ((unhide XW).drew.alloc _) hb6
          have HRUN := hide hrun6
          have HI6 := hide hI6
          have HTB6 := hide hTB6
          have D5 := hide d5
          have D5A := hide d5a
          have D6 := hide d6
          have F6 := hide f6
          clear hrun6 hO6 hg6 hloc6 hI0 hI6 hb6 hTB6 hO0 hO6b d5 d5a d6 f6
          have i0 : (0 : Int) ≤ (A.length : Int) ∧ (A.length : Int) < (A.length : Int) + 1 := ⟨by omega, by omega⟩
          refine wp_region_noPanic ?_
          refine wp_region_held_drew (S := fun wx => Blk wx tb #[.int .i64 t.kind, .string ⟨t.text.toArray⟩, .int .i32 t.num, .int .i64 t.place, .int .i64 t.line] 33) (by kernel_rfl) (unhide HTB) (fun HS => ?_)
          refine wpAnyH_take (i := 0) (oi := { dst := some 33, op := Op.move (Operand.tmp 3), type := _, pos := _, after := _, guard := none }) (v := .slice (some ⟨g, 0, none⟩) (A.length + 1) rc) rfl (by kernel_rfl) (by kernel_rfl) (by kernel_rfl) (fun _ _ _ h => h) (Or.inl ⟨by rfl, fun wx hx => by go_simp⟩) HS ?_
          simp only [Act.put, List.setIfInBounds_toArray, List.set_cons_zero, List.set_cons_succ]
          refine wpAnyH_take (i := 1) (oi := { dst := some 34, op := Op.move (Operand.tmp 6), type := _, pos := _, after := _, guard := none }) (v := .int .i64 (A.length : Int)) rfl (by kernel_rfl) (by kernel_rfl) (by kernel_rfl) (fun _ _ _ h => h) (Or.inl ⟨by rfl, fun wx hx => by go_simp⟩) HS ?_
          simp only [Act.put, List.setIfInBounds_toArray, List.set_cons_zero, List.set_cons_succ]
          refine wpAnyH_take (i := 2) (oi := { dst := some 35, op := Op.move (Operand.tmp 3), type := _, pos := _, after := _, guard := none }) (v := .slice (some ⟨g, 0, none⟩) (A.length + 1) rc) rfl (by kernel_rfl) (by kernel_rfl) (by kernel_rfl) (fun _ _ _ h => h) (Or.inl ⟨by rfl, fun wx hx => by go_simp⟩) HS ?_
          simp only [Act.put, List.setIfInBounds_toArray, List.set_cons_zero, List.set_cons_succ]
          refine wpAnyH_take (i := 3) (oi := { dst := some 36, op := Op.move (Operand.tmp 6), type := _, pos := _, after := _, guard := none }) (v := .int .i64 (A.length : Int)) rfl (by kernel_rfl) (by kernel_rfl) (by kernel_rfl) (fun _ _ _ h => h) (Or.inl ⟨by rfl, fun wx hx => by go_simp⟩) HS ?_
          simp only [Act.put, List.setIfInBounds_toArray, List.set_cons_zero, List.set_cons_succ]
          refine wpAnyH_take (i := 4) (oi := { dst := some 37, op := Op.indexAddr 58 (Operand.tmp 35) (Operand.tmp 36), type := _, pos := _, after := _, guard := none }) (v := .pointer (some ⟨g, A.length, none⟩)) rfl (by kernel_rfl) (by kernel_rfl) (by kernel_rfl) (fun _ _ _ h => h) (Or.inl ⟨by rfl, fun wx hx => by go_simp⟩) HS ?_
          simp only [Act.put, List.setIfInBounds_toArray, List.set_cons_zero, List.set_cons_succ]
          refine wpAnyH_take (i := 6) (oi := { dst := some 39, op := Op.load 33 (Operand.tmp 5), type := _, pos := _, after := _, guard := none }) (v := .agg #[.int .i64 t.kind, .string ⟨t.text.toArray⟩, .int .i32 t.num, .int .i64 t.place, .int .i64 t.line]) rfl (by kernel_rfl) (by kernel_rfl) (by kernel_rfl) (fun _ _ _ h => h) (Or.inl ⟨by rfl, fun wx hx => by have d0 := hx.cell (i := 0) (v := .int .i64 t.kind) rfl; have d1 := hx.cell (i := 1) (v := .string ⟨t.text.toArray⟩) rfl; have d2 := hx.cell (i := 2) (v := .int .i32 t.num) rfl; have d3 := hx.cell (i := 3) (v := .int .i64 t.place) rfl; have d4 := hx.cell (i := 4) (v := .int .i64 t.line) rfl; go_simp⟩) HS ?_
          simp only [Act.put, List.setIfInBounds_toArray, List.set_cons_zero, List.set_cons_succ]
          refine wpAnyH_ready (rs := [5, 7]) (by kernel_rfl) (by simp) (AllReadyH.cons (o := { dst := some 38, op := Op.load 23 (Operand.tmp 37), type := _, pos := _, after := _, guard := none }) rfl (fun KK hK => ?_) (AllReadyH.cons (o := { dst := some 40, op := Op.buildSlice 23 1 #[(0, Operand.tmp 39)], type := _, pos := _, after := _, guard := none }) rfl (fun KK hK => ?_) AllReadyH.nil))
          · refine Eq.mpr (if_pos (by rfl)) ?_
            have d2 := unhide D5
            go_simp
            refine hK.out _ _ HS (fun _ => ?_)
            clear hK KK d2
            try simp only [Act.put, List.setIfInBounds_toArray, List.set_cons_zero, List.set_cons_succ]
            refine wpAnyH_ready (rs := [7]) (by kernel_rfl) (by simp) (AllReadyH.cons (o := { dst := some 40, op := Op.buildSlice 23 1 #[(0, Operand.tmp 39)], type := _, pos := _, after := _, guard := none }) rfl (fun KK hK => ?_) AllReadyH.nil)
            refine Eq.mpr (if_pos (by rfl)) ?_
            go_simp
            have HS2 : Blk (w5.drew.alloc (.cells #[.int .i64 t.kind, .string ⟨t.text.toArray⟩, .int .i32 t.num, .int .i64 t.place, .int .i64 t.line] 33)) tb #[.int .i64 t.kind, .string ⟨t.text.toArray⟩, .int .i32 t.num, .int .i64 t.place, .int .i64 t.line] 33 := HS.alloc _
            clear HS
            have HS := HS2
            clear HS2
            refine hK.out _ _ HS (fun _ => ?_)
            clear hK KK
            try simp only [Act.put, List.setIfInBounds_toArray, List.set_cons_zero, List.set_cons_succ]
            refine wpAnyH_ready (rs := [8]) (by kernel_rfl) (by simp) (AllReadyH.cons (o := { dst := some 41, op := Op.call { callee := Callee.builtin Builtin.append, args := #[Operand.tmp 38, Operand.tmp 40], argTypes := #[23, 23] }, type := _, pos := _, after := _, guard := none }) rfl (fun KK hK => ?_) AllReadyH.nil)
            refine step_run (by rfl) (.tmp 38) (.tmp 40) 23 (by rfl) (by rfl) (by rfl) (unhide HRUN) ?_
            clear HS
            have HS := unhide HTB6
            refine hK.out _ _ HS (fun _ => ?_)
            clear hK KK
            try simp only [Act.put, List.setIfInBounds_toArray, List.set_cons_zero, List.set_cons_succ]
            refine wpAnyH_take (i := 9) (oi := { dst := some 42, op := Op.indexAddr 58 (Operand.tmp 33) (Operand.tmp 34), type := _, pos := _, after := _, guard := none }) (v := .pointer (some ⟨g, A.length, none⟩)) rfl (by kernel_rfl) (by kernel_rfl) (by kernel_rfl) (fun _ _ _ h => h) (Or.inl ⟨by rfl, fun wx hx => by go_simp⟩) HS ?_
            simp only [Act.put, List.setIfInBounds_toArray, List.set_cons_zero, List.set_cons_succ]
            refine wpAnyH_ready (rs := [10]) (by kernel_rfl) (by simp) (AllReadyH.cons (o := { dst := none, op := Op.store 23 (Operand.tmp 42) (Operand.tmp 41), type := _, pos := _, after := _, guard := none }) rfl (fun KK hK => ?_) AllReadyH.nil)
            refine Eq.mpr (if_pos (by rfl)) ?_
            have e2 := unhide D6
            have fe := unhide F6
            go_simp
            refine hK.out _ _ (HS.other A.length _ (unhide HTG)) (fun _ => ?_)
            clear hK KK e2 fe
            try simp only [Act.put, List.setIfInBounds_toArray, List.set_cons_zero, List.set_cons_succ]
            refine wpAnyH_done (by kernel_rfl) ?_ _
            refine NoPanic.normal ?_
            go_wp2
            have hA6 := unhide HI6
            refine ⟨⟨k + 1, by omega, by rw [unhide HKK]; push_cast; rfl, unhide X6, .inr ⟨by omega, some ⟨g, 0, none⟩, rc, A, .slice ao6 (L.length + 1) cap6, L ++ [t], rfl, hA6, unhide HLN, by omega⟩⟩, ?_⟩
            simp [intOf]
            omega
          · refine Eq.mpr (if_pos (by rfl)) ?_
            go_simp
            have HS2 : Blk (w5.drew.alloc (.cells #[.int .i64 t.kind, .string ⟨t.text.toArray⟩, .int .i32 t.num, .int .i64 t.place, .int .i64 t.line] 33)) tb #[.int .i64 t.kind, .string ⟨t.text.toArray⟩, .int .i32 t.num, .int .i64 t.place, .int .i64 t.line] 33 := HS.alloc _
            clear HS
            have HS := HS2
            clear HS2
            refine hK.out _ _ HS (fun _ => ?_)
            clear hK KK
            try simp only [Act.put, List.setIfInBounds_toArray, List.set_cons_zero, List.set_cons_succ]
            refine wpAnyH_ready (rs := [5]) (by kernel_rfl) (by simp) (AllReadyH.cons (o := { dst := some 38, op := Op.load 23 (Operand.tmp 37), type := _, pos := _, after := _, guard := none }) rfl (fun KK hK => ?_) AllReadyH.nil)
            refine Eq.mpr (if_pos (by rfl)) ?_
            have d2 := unhide D5A
            go_simp
            refine hK.out _ _ HS (fun _ => ?_)
            clear hK KK d2
            try simp only [Act.put, List.setIfInBounds_toArray, List.set_cons_zero, List.set_cons_succ]
            refine wpAnyH_ready (rs := [8]) (by kernel_rfl) (by simp) (AllReadyH.cons (o := { dst := some 41, op := Op.call { callee := Callee.builtin Builtin.append, args := #[Operand.tmp 38, Operand.tmp 40], argTypes := #[23, 23] }, type := _, pos := _, after := _, guard := none }) rfl (fun KK hK => ?_) AllReadyH.nil)
            refine step_run (by rfl) (.tmp 38) (.tmp 40) 23 (by rfl) (by rfl) (by rfl) (unhide HRUN) ?_
            clear HS
            have HS := unhide HTB6
            refine hK.out _ _ HS (fun _ => ?_)
            clear hK KK
            try simp only [Act.put, List.setIfInBounds_toArray, List.set_cons_zero, List.set_cons_succ]
            refine wpAnyH_take (i := 9) (oi := { dst := some 42, op := Op.indexAddr 58 (Operand.tmp 33) (Operand.tmp 34), type := _, pos := _, after := _, guard := none }) (v := .pointer (some ⟨g, A.length, none⟩)) rfl (by kernel_rfl) (by kernel_rfl) (by kernel_rfl) (fun _ _ _ h => h) (Or.inl ⟨by rfl, fun wx hx => by go_simp⟩) HS ?_
            simp only [Act.put, List.setIfInBounds_toArray, List.set_cons_zero, List.set_cons_succ]
            refine wpAnyH_ready (rs := [10]) (by kernel_rfl) (by simp) (AllReadyH.cons (o := { dst := none, op := Op.store 23 (Operand.tmp 42) (Operand.tmp 41), type := _, pos := _, after := _, guard := none }) rfl (fun KK hK => ?_) AllReadyH.nil)
            refine Eq.mpr (if_pos (by rfl)) ?_
            have e2 := unhide D6
            have fe := unhide F6
            go_simp
            refine hK.out _ _ (HS.other A.length _ (unhide HTG)) (fun _ => ?_)
            clear hK KK e2 fe
            try simp only [Act.put, List.setIfInBounds_toArray, List.set_cons_zero, List.set_cons_succ]
            refine wpAnyH_done (by kernel_rfl) ?_ _
            refine NoPanic.normal ?_
            go_wp2
            have hA6 := unhide HI6
            refine ⟨⟨k + 1, by omega, by rw [unhide HKK]; push_cast; rfl, unhide X6, .inr ⟨by omega, some ⟨g, 0, none⟩, rc, A, .slice ao6 (L.length + 1) cap6, L ++ [t], rfl, hA6, unhide HLN, by omega⟩⟩, ?_⟩
            simp [intOf]
            omega
    · have hke : X.take k = X := List.take_of_length_le (by omega)
      rcases hst with ⟨hk0, rfl⟩ | ⟨hk0, ro, rc, A, v, L, rfl, hI, hln, hkl⟩
      · have hX0 : X = [] := List.length_eq_zero_iff.1 (by omega)
        go_wp2
        go_ret
        exact ⟨none, 0, [], rfl, ⟨World.ownsRow_nil _ _ _ _, fun p hp => by cases hp⟩, by rw [hX0]; rfl, unhide X0⟩
      · rw [hke] at hln
        have HI := hide hI
        have HLN := hide hln
        clear hI hln hke
        go_wp2
        go_ret
        have hl : (A ++ [(v, L)]).length = A.length + 1 := by simp
        refine ⟨ro, rc, A ++ [(v, L)], by rw [hl]; rfl, by rw [hl]; exact (unhide HI).lr, by rw [unhide HLN, List.map_append]; rfl, unhide X0⟩
end Go.Proofs.YtdcamcpffiilbaaDoor
